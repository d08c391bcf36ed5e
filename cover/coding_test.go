package cover_test

import (
	"bytes"
	"encoding/binary"
	"math"
	"math/rand"
	"slices"
	"testing"

	"headend/api"
	"headend/cover"
)

// bytesOf follows the definition of the encoding.
func bytesOf(h api.Header) []byte {
	b := []byte{byte(len(h.Items))}
	for _, item := range h.Items {
		b = append(b, byte(item.Subset.Node), byte(item.Subset.Minus))
		b = append(b, item.Box[:]...)
	}
	b = binary.BigEndian.AppendUint64(b, h.Base)
	b = append(b, byte(len(h.Points)))
	for _, p := range h.Points {
		b = binary.BigEndian.AppendUint64(b, p.X)
		b = binary.BigEndian.AppendUint64(b, p.Y)
	}
	b = append(b, h.Box[:]...)
	return append(b, h.Check[:]...)
}

// anyHeader returns a header with some items and points.
func anyHeader(r *rand.Rand, items, points int) api.Header {
	h := api.Header{Base: r.Uint64(), Box: random(r), Check: random(r)}
	for range items {
		x := api.Subset{Node: r.Intn(256), Minus: r.Intn(256)}
		h.Items = append(h.Items, api.Item{Subset: x, Box: random(r)})
	}
	for range points {
		h.Points = append(h.Points, api.Point{X: r.Uint64(), Y: r.Uint64()})
	}
	return h
}

// sizes returns how many items and points some headers have.
func sizes() [][2]int {
	return [][2]int{{0, 0}, {1, 0}, {0, 1}, {2, 3}, {64, 0}, {0, 8}, {64, 8}, {63, 7}}
}

func TestEncodeAndDecode(t *testing.T) { // P3.6, P3.10
	r := rand.New(rand.NewSource(10))
	for _, size := range sizes() {
		for range 20 {
			h := anyHeader(r, size[0], size[1])
			b, e := cover.Encode(h)
			if e != api.OK || !bytes.Equal(b, bytesOf(h)) {
				t.Fatalf("%v: %x, %v", h, b, e)
			}
			back, e := cover.Decode(b)
			if e != api.OK || !sameHeader(back, h) {
				t.Fatalf("%x: %v, %v", b, back, e)
			}
		}
	}
}

func TestFixedEncoding(t *testing.T) { // P3.6
	h := api.Header{
		Items:  []api.Item{{Subset: api.Subset{Node: 2, Minus: 255}, Box: api.Key{0: 0xa0, 15: 0xaf}}},
		Base:   0x0102030405060708,
		Points: []api.Point{{X: 0x1112131415161718, Y: 0x2122232425262728}},
		Box:    api.Key{0: 0xb0, 15: 0xbf},
		Check:  api.Key{0: 0xc0, 15: 0xcf},
	}
	zeros := make([]byte, 14)
	want := slices.Concat(
		[]byte{1, 2, 255, 0xa0}, zeros, []byte{0xaf},
		[]byte{1, 2, 3, 4, 5, 6, 7, 8},
		[]byte{1, 0x11, 0x12, 0x13, 0x14, 0x15, 0x16, 0x17, 0x18, 0x21, 0x22, 0x23, 0x24, 0x25, 0x26, 0x27, 0x28},
		[]byte{0xb0}, zeros, []byte{0xbf},
		[]byte{0xc0}, zeros, []byte{0xcf},
	)
	if b, e := cover.Encode(h); e != api.OK || !bytes.Equal(b, want) {
		t.Errorf("%x, %v", b, e)
	}
	if b, e := cover.Encode(api.Header{}); e != api.OK || !bytes.Equal(b, make([]byte, 42)) {
		t.Errorf("%x, %v", b, e)
	}
	if back, e := cover.Decode(make([]byte, 42)); e != api.OK || !isZero(back) {
		t.Errorf("%v, %v", back, e)
	}
}

func TestEncodeErrors(t *testing.T) { // P3.6, R1, R5
	r := rand.New(rand.NewSource(11))
	for _, size := range [][2]int{{65, 0}, {0, 9}, {65, 9}, {256, 0}, {0, 256}, {320, 8}, {64, 264}} {
		h := anyHeader(r, size[0], size[1])
		for range 2 {
			if b, e := cover.Encode(h); e != api.ErrMany || len(b) > 0 {
				t.Errorf("%v: %x, %v", size, b, e)
			}
			if size[0] > 0 {
				h.Items[0].Subset.Node = -1
			}
		}
	}
	for _, n := range []int{-1, 256, 257, 512, 1 << 32, math.MaxInt, math.MinInt} {
		for at := range 3 {
			node, minus := anyHeader(r, 3, 8), anyHeader(r, 3, 8)
			node.Items[at].Subset.Node = n
			minus.Items[at].Subset.Minus = n
			for _, h := range []api.Header{node, minus} {
				if b, e := cover.Encode(h); e != api.ErrArg || len(b) > 0 {
					t.Errorf("%d at %d: %x, %v", n, at, b, e)
				}
			}
		}
	}
}

func refusesBytes(t *testing.T, b []byte) {
	t.Helper()
	if h, e := cover.Decode(b); e != api.ErrForm || !isZero(h) {
		t.Errorf("%x: %v, %v", b, h, e)
	}
}

func TestDecodeOfNoEncoding(t *testing.T) { // P3.6
	r := rand.New(rand.NewSource(12))
	refusesBytes(t, nil)
	for _, size := range sizes() {
		b := bytesOf(anyHeader(r, size[0], size[1]))
		for n := range b {
			refusesBytes(t, b[:n])
		}
		for n := 1; n < 40; n++ {
			refusesBytes(t, append(slices.Clone(b), make([]byte, n)...))
		}
	}
	for _, size := range [][2]int{{65, 0}, {255, 0}, {64, 9}, {0, 9}, {0, 255}, {255, 255}} {
		refusesBytes(t, bytesOf(anyHeader(r, size[0], size[1])))
	}
}

func TestEncodeOfWhatWasDecoded(t *testing.T) { // P3.10
	r := rand.New(rand.NewSource(13))
	for range 20000 {
		b := bytesOf(anyHeader(r, r.Intn(3), r.Intn(3)))
		b[r.Intn(len(b))] = byte(r.Intn(4))
		h, e := cover.Decode(b)
		if e != api.OK {
			refusesBytes(t, b)
			continue
		}
		if again, e := cover.Encode(h); e != api.OK || !bytes.Equal(again, b) {
			t.Fatalf("%x: %x, %v", b, again, e)
		}
	}
}
