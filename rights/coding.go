package rights

import (
	"bytes"

	"headend/api"
)

// How many bytes the numbers take.
const (
	smallBytes  = 1
	priceBytes  = 2
	amountBytes = 4
	epochBytes  = 8
)

// writer is the bytes that have been written.
type writer []byte

// number writes a number, with the highest byte first.
func (w *writer) number(n, size int) {
	for i := size - 1; i >= 0; i-- {
		*w = append(*w, byte(n>>(8*i)))
	}
}

// smalls writes numbers below 256.
func (w *writer) smalls(l ...int) {
	for _, n := range l {
		w.number(n, smallBytes)
	}
}

func (w *writer) flag(is bool) {
	if is {
		w.smalls(1)
	} else {
		w.smalls(0)
	}
}

func (w *writer) deal(d api.Deal) {
	w.smalls(int(d.Kind), d.Receiver, d.Account, d.Item)
	w.number(d.From, epochBytes)
	w.number(d.To, epochBytes)
	w.number(d.Amount, amountBytes)
	w.smalls(int(d.Region), int(d.Level))
	w.flag(d.View)
}

// writeList writes how many there are in a list, and each of them.
func writeList[T any](w *writer, l []T, write func(w *writer, x T)) {
	w.smalls(len(l))
	for _, x := range l {
		write(w, x)
	}
}

func (w *writer) books(b api.Books) {
	writeList(w, b.Products, (*writer).product)
	writeList(w, b.Cards, (*writer).card)
	writeList(w, b.Grants, (*writer).grant)
	writeList(w, b.Sales, (*writer).sale)
	writeList(w, b.Licences, (*writer).licence)
	for _, n := range b.Credits {
		w.number(n, amountBytes)
	}
}

func (w *writer) product(p api.Product) {
	w.smalls(int(p.Regions), int(p.Level))
	w.number(p.Price, priceBytes)
	w.flag(p.View)
}

func (w *writer) card(c api.Card) {
	w.smalls(c.Receiver, c.Account, int(c.Region), int(c.Level), c.Home)
	w.number(c.Met, epochBytes)
	w.flag(c.Dead)
}

func (w *writer) grant(g api.Grant) {
	w.smalls(g.Account, g.Product)
	w.number(g.From, epochBytes)
	w.number(g.To, epochBytes)
}

func (w *writer) sale(s api.Sale) {
	w.smalls(s.Account, s.Product)
	w.number(s.Epoch, epochBytes)
	w.number(s.Price, priceBytes)
}

func (w *writer) licence(l api.Licence) {
	w.smalls(l.Account, l.Title)
	w.number(l.Until, epochBytes)
	w.smalls(l.Plays)
}

// bytesOfDeal returns the bytes of a deal that is valid.
func bytesOfDeal(d api.Deal) []byte {
	var w writer
	w.deal(d)
	return w
}

// bytesOfBooks returns the bytes of books that are valid.
func bytesOfBooks(b api.Books) []byte {
	var w writer
	w.books(b)
	return w
}

// EncodeDeal returns the bytes of a deal.
func EncodeDeal(d api.Deal) ([]byte, api.Errno) {
	if e := CheckDeal(d); e != api.OK {
		return nil, e
	}
	return bytesOfDeal(d), api.OK
}

// DecodeDeal returns the deal that has some bytes.
func DecodeDeal(b []byte) (api.Deal, api.Errno) {
	d, e := read(b, (*reader).deal)
	// Bytes that are left over, or are no flags, are missed where the deal is written again.
	if e != api.OK || CheckDeal(d) != api.OK || !bytes.Equal(bytesOfDeal(d), b) {
		return api.Deal{}, api.ErrBad
	}
	return d, api.OK
}

// EncodeBooks returns the bytes of the books.
func EncodeBooks(b api.Books) ([]byte, api.Errno) {
	if e := Check(b); e != api.OK {
		return nil, e
	}
	return bytesOfBooks(b), api.OK
}

// DecodeBooks returns the books that have some bytes.
func DecodeBooks(x []byte) (api.Books, api.Errno) {
	b, e := read(x, (*reader).books)
	if e != api.OK || Check(b) != api.OK || !bytes.Equal(bytesOfBooks(b), x) {
		return api.Books{}, api.ErrBad
	}
	return b, api.OK
}
