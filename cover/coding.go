package cover

import (
	"bytes"

	"headend/api"
)

// numberBytes is how many bytes the numbers of a polynomial take.
const numberBytes = 8

// appendNumber returns b with a number behind it.
func appendNumber(b []byte, number uint64) []byte {
	for i := numberBytes - 1; i >= 0; i-- {
		b = append(b, byte(number>>(8*i)))
	}
	return b
}

func isByte(n int) bool { return n >= 0 && n <= 255 }

// checkCoding returns the error of Encode.
func checkCoding(h api.Header) api.Errno {
	if len(h.Items) > api.MaxItems || len(h.Points) > api.MaxDegree {
		return api.ErrMany
	}
	for _, item := range h.Items {
		if !isByte(item.Subset.Node) || !isByte(item.Subset.Minus) {
			return api.ErrArg
		}
	}
	return api.OK
}

// Encode returns the encoding of a header.
func Encode(h api.Header) ([]byte, api.Errno) {
	if e := checkCoding(h); e != api.OK {
		return nil, e
	}
	b := []byte{byte(len(h.Items))}
	for _, item := range h.Items {
		b = append(b, byte(item.Subset.Node), byte(item.Subset.Minus))
		b = append(b, item.Box[:]...)
	}
	b = appendNumber(b, h.Base)
	b = append(b, byte(len(h.Points)))
	for _, p := range h.Points {
		b = appendNumber(b, p.X)
		b = appendNumber(b, p.Y)
	}
	b = append(b, h.Box[:]...)
	return append(b, h.Check[:]...), api.OK
}

// reader is the bytes that are not read yet. What is missing is read as zeros.
type reader []byte

// take reads at most n bytes.
func (r *reader) take(n int) []byte {
	n = min(n, len(*r))
	part := (*r)[:n]
	*r = (*r)[n:]
	return part
}

// number reads a number of some bytes.
func (r *reader) number(size int) uint64 {
	number := uint64(0)
	for _, c := range r.take(size) {
		number = number<<8 | uint64(c)
	}
	return number
}

// small reads a number of one byte.
func (r *reader) small() int { return int(r.number(1)) }

// block reads a key.
func (r *reader) block() api.Key {
	var k api.Key
	copy(k[:], r.take(len(k)))
	return k
}

// header reads a header.
func (r *reader) header() api.Header {
	var h api.Header
	for range r.small() {
		x := api.Subset{Node: r.small(), Minus: r.small()}
		h.Items = append(h.Items, api.Item{Subset: x, Box: r.block()})
	}
	h.Base = r.number(numberBytes)
	for range r.small() {
		h.Points = append(h.Points, api.Point{X: r.number(numberBytes), Y: r.number(numberBytes)})
	}
	h.Box = r.block()
	h.Check = r.block()
	return h
}

// Decode returns the header of an encoding.
func Decode(b []byte) (api.Header, api.Errno) {
	r := reader(b)
	h := r.header()
	// Only what is an encoding comes back unchanged: neither too short, nor too long, nor of too many items.
	again, e := Encode(h)
	if e != api.OK || !bytes.Equal(again, b) {
		return api.Header{}, api.ErrForm
	}
	return h, api.OK
}
