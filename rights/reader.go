package rights

import "headend/api"

// reader is the bytes that are not read yet. It panics if there are too few.
type reader []byte

// read returns what is read from the first ones of some bytes, or ErrBad if there are too few.
func read[T any](b []byte, part func(r *reader) T) (result T, e api.Errno) {
	defer func() {
		if recover() != nil {
			e = api.ErrBad
		}
	}()
	r := reader(b)
	return part(&r), api.OK
}

// number reads a number, which is below 0 if its eight bytes are for one that is too large.
func (r *reader) number(size int) int {
	if size > len(*r) {
		panic(api.ErrBad)
	}
	number := 0
	for _, c := range (*r)[:size] {
		number = number<<8 | int(c)
	}
	*r = (*r)[size:]
	return number
}

func (r *reader) small() int { return r.number(smallBytes) }

func (r *reader) byte() uint8 { return uint8(r.small()) }

func (r *reader) epoch() int { return r.number(epochBytes) }

func (r *reader) flag() bool { return r.small() == 1 }

func (r *reader) deal() api.Deal {
	return api.Deal{
		Kind: r.byte(), Receiver: r.small(), Account: r.small(), Item: r.small(),
		From: r.epoch(), To: r.epoch(), Amount: r.number(amountBytes),
		Region: r.byte(), Level: r.byte(), View: r.flag(),
	}
}

// readList reads how many there are in a list, and each of them.
func readList[T any](r *reader, part func(r *reader) T) []T {
	l := make([]T, r.small())
	for i := range l {
		l[i] = part(r)
	}
	return l
}

func (r *reader) books() api.Books {
	b := api.Books{
		Products: readList(r, (*reader).product),
		Cards:    readList(r, (*reader).card),
		Grants:   readList(r, (*reader).grant),
		Sales:    readList(r, (*reader).sale),
		Licences: readList(r, (*reader).licence),
	}
	for i := range b.Credits {
		b.Credits[i] = r.number(amountBytes)
	}
	return b
}

func (r *reader) product() api.Product {
	return api.Product{Regions: r.byte(), Level: r.byte(), Price: r.number(priceBytes), View: r.flag()}
}

func (r *reader) card() api.Card {
	return api.Card{
		Receiver: r.small(), Account: r.small(), Region: r.byte(), Level: r.byte(),
		Home: r.small(), Met: r.epoch(), Dead: r.flag(),
	}
}

func (r *reader) grant() api.Grant {
	return api.Grant{Account: r.small(), Product: r.small(), From: r.epoch(), To: r.epoch()}
}

func (r *reader) sale() api.Sale {
	return api.Sale{Account: r.small(), Product: r.small(), Epoch: r.epoch(), Price: r.number(priceBytes)}
}

func (r *reader) licence() api.Licence {
	return api.Licence{Account: r.small(), Title: r.small(), Until: r.epoch(), Plays: r.small()}
}
