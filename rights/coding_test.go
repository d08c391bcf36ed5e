package rights_test

import (
	"bytes"
	"math"
	"math/rand"
	"reflect"
	"slices"
	"testing"

	"headend/api"
	"headend/rights"
)

func TestCodeDeal(t *testing.T) { // P6.4
	r := rand.New(rand.NewSource(13))
	for range 20000 {
		d := someDeal(r)
		b, e := rights.EncodeDeal(d)
		if e != api.OK || !bytes.Equal(b, dealBytes(d)) || len(b) != 27 {
			t.Fatalf("%+v: %x, %v", d, b, e)
		}
		if back, e := rights.DecodeDeal(b); e != api.OK || back != d {
			t.Fatalf("%+v: %+v, %v", d, back, e)
		}
	}
	for _, d := range []api.Deal{{}, {Kind: 13}, {Kind: 4, Receiver: 256 + 4}, {Kind: 12, From: -1}, {Kind: 7, Amount: 1<<32 + 1}} {
		if b, e := rights.EncodeDeal(d); len(b) > 0 || e != api.ErrArg {
			t.Errorf("%+v: %x, %v", d, b, e)
		}
	}
}

func TestDecodeDealWrong(t *testing.T) { // P6.4: bytes that no valid deal has
	good := dealBytes(api.Deal{Kind: 5, Account: 2, From: 5, To: 8})
	for n := range good {
		if d, e := rights.DecodeDeal(good[:n]); d != (api.Deal{}) || e != api.ErrBad {
			t.Errorf("%d bytes: %+v, %v", n, d, e)
		}
	}
	if d, e := rights.DecodeDeal(append(good, 0)); d != (api.Deal{}) || e != api.ErrBad {
		t.Errorf("%+v, %v", d, e)
	}
	r := rand.New(rand.NewSource(14))
	counts := map[api.Errno]int{}
	for range 50000 {
		b := dealBytes(someDeal(r))
		for range 1 + r.Intn(2) {
			b[r.Intn(len(b))] = pick(r, 0, 1, 2, 4, 128, 255, byte(r.Intn(256)))
		}
		d, e := rights.DecodeDeal(b)
		switch counts[e]++; {
		case e == api.OK:
			if !isValidDeal(d) || !bytes.Equal(dealBytes(d), b) {
				t.Fatalf("%x: %+v", b, d)
			}
		case e != api.ErrBad || d != api.Deal{}:
			t.Fatalf("%x: %+v, %v", b, d, e)
		case hasDeal(b):
			t.Fatalf("%x is a deal", b)
		}
	}
	if counts[api.OK] < 1000 || counts[api.ErrBad] < 1000 {
		t.Error(counts)
	}
}

// hasDeal reports whether a valid deal has some 27 bytes.
func hasDeal(b []byte) bool {
	number := func(b []byte) (n int) {
		for _, c := range b {
			if n >= math.MaxInt/512 {
				return -1
			}
			n = n*256 + int(c)
		}
		return n
	}
	d := api.Deal{Kind: b[0], Receiver: int(b[1]), Account: int(b[2]), Item: int(b[3])}
	d.From, d.To, d.Amount = number(b[4:12]), number(b[12:20]), number(b[20:24])
	d.Region, d.Level, d.View = b[24], b[25], b[26] == 1
	return isValidDeal(d) && b[26] <= 1
}

func TestCodeBooks(t *testing.T) { // P6.4
	r := rand.New(rand.NewSource(15))
	for i := range 3000 {
		b := someBooks(r)
		switch i {
		case 0:
			b = api.Books{}
		case 1:
			b = fullBooks()
		}
		x, e := rights.EncodeBooks(b)
		if e != api.OK || !bytes.Equal(x, booksBytes(b)) {
			t.Fatalf("%+v: %x, %v", b, x, e)
		}
		if back, e := rights.DecodeBooks(x); e != api.OK || !isSameBooks(back, b) {
			t.Fatalf("%+v: %+v, %v", b, back, e)
		}
	}
	// 69 bytes for nothing, and a snapshot of the greatest books fits into a file.
	if n := len(booksBytes(api.Books{})); n != 69 {
		t.Error(n)
	}
	if n := len(snapshotBytes(fullBooks(), 0)); n != 3657 || n > api.MaxLog {
		t.Error(n)
	}
	wrong := smallBooks()
	wrong.Cards[0].Met = 1
	if x, e := rights.EncodeBooks(wrong); len(x) > 0 || e != api.ErrBad {
		t.Errorf("%x, %v", x, e)
	}
}

func TestDecodeBooksWrong(t *testing.T) { // P6.4: bytes that no valid books have
	for _, b := range []api.Books{{}, smallBooks()} {
		good := booksBytes(b)
		for n := range good {
			if b, e := rights.DecodeBooks(good[:n]); !isSameBooks(b, api.Books{}) || e != api.ErrBad {
				t.Errorf("%d bytes: %+v, %v", n, b, e)
			}
		}
		if b, e := rights.DecodeBooks(append(good, 0)); !isSameBooks(b, api.Books{}) || e != api.ErrBad {
			t.Errorf("%+v, %v", b, e)
		}
	}
	r := rand.New(rand.NewSource(16))
	counts := map[api.Errno]int{}
	for range 50000 {
		x := booksBytes(pick(r, smallBooks(), someBooks(r)))
		at := r.Intn(len(x))
		x[at] = pick(r, 0, 1, 2, 8, 64, 65, 128, 255, byte(r.Intn(256)))
		b, e := rights.DecodeBooks(x)
		counts[e]++
		if e == api.OK && (!isValid(b) || !bytes.Equal(booksBytes(b), x)) {
			t.Fatalf("%x: %+v", x, b)
		}
		if e != api.OK && (e != api.ErrBad || !isSameBooks(b, api.Books{})) {
			t.Fatalf("%x: %+v, %v", x, b, e)
		}
	}
	if counts[api.OK] < 1000 || counts[api.ErrBad] < 1000 {
		t.Error(counts)
	}
	for _, x := range [][]byte{nil, {}, {255}, bytes.Repeat([]byte{255}, 5000), bytes.Repeat([]byte{8}, 5000), make([]byte, 70), make([]byte, 1<<20)} {
		if b, e := rights.DecodeBooks(x); !isSameBooks(b, api.Books{}) || e != api.ErrBad {
			t.Errorf("%d bytes: %+v, %v", len(x), b, e)
		}
	}
}

func TestDecodeWrongBooks(t *testing.T) { // P6.4: the bytes of books that are not valid
	r := rand.New(rand.NewSource(17))
	wrong := 0
	for range 6000 {
		b := pick(r, someBooks(r), smallBooks(), fullBooks())
		v := pick(r, numbers(reflect.ValueOf(&b).Elem())...)
		spoilNumber(r, v)
		if isValid(b) || v.Kind() == reflect.Int && (v.Int() < 0 || v.Int() > 255) {
			continue // another number may have the same bytes
		}
		wrong++
		if got, e := rights.DecodeBooks(booksBytes(b)); !isSameBooks(got, api.Books{}) || e != api.ErrBad {
			t.Fatalf("%+v, %v with %+v", got, e, b)
		}
	}
	if wrong < 1000 {
		t.Error("too few:", wrong)
	}
	// Flags are 1 or 0, and numbers of eight bytes may be above all numbers.
	for at, c := range map[int]byte{5: 2, 10: 3, 1 + 10 + 1 + 13: 2, 1 + 10 + 1 + 28 + 5: 128, 1 + 10 + 1 + 28 + 5 + 1: 1} {
		x := booksBytes(smallBooks())
		x[at] = c
		if got, e := rights.DecodeBooks(x); !isSameBooks(got, api.Books{}) || e != api.ErrBad {
			t.Errorf("byte %d: %+v, %v", at, got, e)
		}
	}
	if x := booksBytes(smallBooks()); !slices.Equal(x[:12], []byte{2, 3, 1, 0, 0, 0, 255, 0, 0, 100, 1, 4}) {
		t.Error(x[:12])
	}
}
