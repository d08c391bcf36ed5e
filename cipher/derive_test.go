package cipher_test

import (
	"bytes"
	"encoding/hex"
	"math"
	"math/rand"
	"slices"
	"testing"

	"headend/api"
	"headend/cipher"
)

// numbers returns numbers with marks at the ends of their bytes.
func numbers() []uint64 {
	return []uint64{0, 1, 2, 255, 256, 258, 1 << 16, 1<<32 - 1, 1 << 32, 1 << 56, 1<<63 - 1, 1 << 63, math.MaxUint64 - 1, math.MaxUint64}
}

func TestDerive(t *testing.T) { // P2.2, Examples
	for _, k := range edges(t) {
		if cipher.Derive(k, 7, 258) != cipher.Encrypt(k, block(t, "07000000000000000000000000000102")) {
			t.Errorf("Derive(%x, 7, 258)", k)
		}
		for _, tag := range []uint8{0, 1, 2, 127, 128, 255} {
			for _, n := range numbers() {
				if cipher.Derive(k, tag, n) != cipher.Encrypt(k, tagged(tag, 0, n)) {
					t.Errorf("Derive(%x, %d, %d)", k, tag, n)
				}
			}
		}
	}
	if got := cipher.Derive(block(t, "ffeeddccbbaa99887766554433221100"), 255, math.MaxUint64); got != block(t, "05e290d0189df9860aa46aa90b4c35a0") {
		t.Errorf("%x", got)
	}
}

func TestDerivedKeysDiffer(t *testing.T) { // P2.6
	type pair struct {
		tag uint8
		n   uint64
	}
	r := rand.New(rand.NewSource(3))
	for _, k := range edges(t) {
		seen := map[api.Key]pair{}
		note := func(p pair) {
			derived := cipher.Derive(k, p.tag, p.n)
			if other, ok := seen[derived]; ok && other != p {
				t.Fatalf("%v and %v derive one key", p, other)
			}
			seen[derived] = p
		}
		for tag := range 256 {
			for _, n := range numbers() {
				note(pair{uint8(tag), n})
			}
			note(pair{uint8(tag), r.Uint64()})
		}
	}
}

func TestNumber(t *testing.T) { // P2.2, P2.6, Examples
	r := rand.New(rand.NewSource(4))
	for _, k := range edges(t) {
		if cipher.Number(k, 5, 0) != 0 || cipher.Number(k, 5, 1) != 0 {
			t.Errorf("%x: Number below 0 or 1", k)
		}
		for _, n := range append(numbers(), r.Uint64()) {
			derived := cipher.Derive(k, 3, n)
			whole := word(derived[:8])
			if cipher.Number(k, n, 0) != 0 {
				t.Errorf("Number(%x, %d, 0)", k, n)
			}
			for _, most := range append(numbers()[1:], 3, 1000, whole, whole+1, r.Uint64()|1) {
				got := cipher.Number(k, n, most)
				if got != whole%most || got >= most {
					t.Errorf("Number(%x, %d, %d) = %d", k, n, most, got)
				}
			}
		}
	}
}

func TestFixedNumbers(t *testing.T) { // P2.2
	other := block(t, "ffeeddccbbaa99887766554433221100")
	for _, c := range []struct {
		k             api.Key
		n, most, want uint64
	}{
		{down(), 5, math.MaxUint64, 2732829708321598739},
		{down(), 5, 1000, 739},
		{other, 5, math.MaxUint64, 9316017885692572087},
		{other, 5, 1 << 63, 92645848837796279},
		{other, math.MaxUint64, 1000000, 838169},
	} {
		if got := cipher.Number(c.k, c.n, c.most); got != c.want {
			t.Errorf("Number(%x, %d, %d) = %d, not %d", c.k, c.n, c.most, got, c.want)
		}
	}
}

func TestFixedStreams(t *testing.T) { // P2.3
	k := block(t, "ffeeddccbbaa99887766554433221100")
	whole, _ := hex.DecodeString("7b32676768ac3b80f3ac4d1164164510f74df3d99199e53e739972046b3f198d65fcd53515467e8b")
	for n := range len(whole) + 1 {
		got, e := cipher.Stream(k, math.MaxUint64-1, pattern(n))
		if e != api.OK || !bytes.Equal(got, whole[:n]) {
			t.Errorf("%d bytes: %x, %v", n, got, e)
		}
	}
	long, e := cipher.Stream(k, 9, pattern(api.MaxBytes))
	if e != api.OK || hex.EncodeToString(long[4096:4112]) != "b89e44b9b4377015959514529fc1cf69" || hex.EncodeToString(long[api.MaxBytes-16:]) != "200ceea6a073f8bbfef4703f5fa1fec4" {
		t.Error("the longest stream", e)
	}
}

func TestStream(t *testing.T) { // P2.3, P2.7
	r := rand.New(rand.NewSource(5))
	longest := make([]byte, api.MaxBytes)
	r.Read(longest)
	k, n := random(r), r.Uint64()
	beginnings, _ := cipher.Stream(k, n, longest)
	for _, l := range lengths() {
		b := longest[:l]
		got, e := cipher.Stream(k, n, b)
		if e != api.OK || !bytes.Equal(got, streamed(k, n, b)) {
			t.Fatal(l, "bytes", e)
		}
		if !bytes.Equal(got, beginnings[:l]) {
			t.Error(l, "bytes: not the beginning of the stream of more bytes")
		}
		if back, e := cipher.Stream(k, n, got); e != api.OK || !bytes.Equal(back, b) {
			t.Error(l, "bytes: not streamed back", e)
		}
	}
}

func TestStreamsDifferAsTexts(t *testing.T) { // P2.7
	r := rand.New(rand.NewSource(6))
	for _, k := range edges(t) {
		for _, n := range numbers() {
			a, b := make([]byte, r.Intn(80)), []byte(nil)
			r.Read(a)
			for range a {
				b = append(b, byte(r.Intn(256)))
			}
			x, _ := cipher.Stream(k, n, a)
			y, _ := cipher.Stream(k, n, b)
			for i := range a {
				if x[i]^y[i] != a[i]^b[i] {
					t.Fatalf("%x, %d: byte %d", k, n, i)
				}
			}
		}
	}
}

func TestTooManyBytes(t *testing.T) { // P2.3, P2.4, R2, Examples
	for _, n := range []int{api.MaxBytes + 1, api.MaxBytes + 16, 2 * api.MaxBytes, 1 << 20} {
		b := pattern(n)
		if got, e := cipher.Stream(down(), 3, b); e != api.ErrMany || len(got) != 0 {
			t.Error("Stream", n, e)
		}
		if got, e := cipher.Hash(b); e != api.ErrMany || got != (api.Key{}) {
			t.Error("Hash", n, e)
		}
		if got, e := cipher.Mac(down(), b); e != api.ErrMany || got != (api.Key{}) {
			t.Error("Mac", n, e)
		}
	}
}

func TestNoBytes(t *testing.T) { // P2.3, R4, Examples
	for _, b := range [][]byte{nil, {}, pattern(5)[:0]} {
		if got, e := cipher.Stream(down(), 3, b); e != api.OK || len(got) != 0 {
			t.Error("Stream", got, e)
		}
		if got, e := cipher.Hash(b); e != api.OK || got != block(t, "b971f5df51f8378595ac8d6afd22d2e4") {
			t.Errorf("Hash %x %v", got, e)
		}
		if got, e := cipher.Mac(down(), b); e != api.OK || got != cipher.Derive(down(), 2, 0) {
			t.Errorf("Mac %x %v", got, e)
		}
	}
}

// spare returns a copy of some bytes, with memory behind its length, and all of this memory.
func spare(b []byte) (part, memory []byte) {
	memory = append(slices.Clone(b), bytes.Repeat([]byte{0xa5}, 64)...)
	return memory[:len(b)], memory
}

func TestMemory(t *testing.T) { // R3
	for _, n := range lengths() {
		b, memory := spare(pattern(n))
		before := slices.Clone(memory)
		first, _ := cipher.Stream(down(), 3, b)
		digested, _ := cipher.Hash(b)
		tagged, _ := cipher.Mac(down(), b)
		if !bytes.Equal(memory, before) {
			t.Fatal(n, "bytes: an argument was changed")
		}
		second, _ := cipher.Stream(down(), 3, b)
		digestedAgain, _ := cipher.Hash(b)
		taggedAgain, _ := cipher.Mac(down(), b)
		if !bytes.Equal(first, second) || digested != digestedAgain || tagged != taggedAgain {
			t.Fatal(n, "bytes: two calls differ")
		}
		want := slices.Clone(second)
		clear(first[:cap(first)])
		if !bytes.Equal(memory, before) || !bytes.Equal(second, want) {
			t.Fatal(n, "bytes: a result shares memory")
		}
	}
}
