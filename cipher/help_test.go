package cipher_test

import (
	"bytes"
	"encoding/hex"
	"math/rand"
	"testing"

	"headend/api"
	"headend/cipher"
)

// block returns the block of 32 digits.
func block(t *testing.T, s string) api.Key {
	t.Helper()
	b, err := hex.DecodeString(s)
	if err != nil || len(b) != 16 {
		t.Fatal("no block:", s)
	}
	return api.Key(b)
}

// down returns the key whose bytes are 15 down to 0.
func down() api.Key {
	var k api.Key
	for i := range k {
		k[i] = byte(15 - i)
	}
	return k
}

// edges returns blocks with few or many bits, and with marks at the ends of their words.
func edges(t *testing.T) []api.Key {
	t.Helper()
	var ks []api.Key
	for _, s := range []string{
		"00000000000000000000000000000000",
		"ffffffffffffffffffffffffffffffff",
		"00000000000000000000000000000001",
		"80000000000000000000000000000000",
		"00000000000000018000000000000000",
		"ffffffffffffffff0000000000000000",
		"0000000000000000ffffffffffffffff",
		"0f0e0d0c0b0a09080706050403020100",
		"ffeeddccbbaa99887766554433221100",
	} {
		ks = append(ks, block(t, s))
	}
	return ks
}

func random(r *rand.Rand) api.Key {
	var k api.Key
	r.Read(k[:])
	return k
}

// pattern returns n bytes that follow a rule.
func pattern(n int) []byte {
	b := make([]byte, n)
	for i := range b {
		b[i] = byte(7*i + 3)
	}
	return b
}

// lengths returns how many bytes some texts have: all small numbers, those around a portion's end, and the limit.
func lengths() []int {
	var ns []int
	for n := range 100 {
		ns = append(ns, n)
	}
	return append(ns, 255, 256, 257, 4095, 4096, 4097, api.MaxBytes-17, api.MaxBytes-16, api.MaxBytes-1, api.MaxBytes)
}

// The functions below follow the chapter's terms, with Encrypt alone. They are written without what the program shares.

// tagged returns the block of a tag, a counter and a number.
func tagged(tag uint8, counter, n uint64) api.Key {
	var b api.Key
	for i := range 8 {
		b[7-i] = byte(counter >> (8 * i))
		b[15-i] = byte(n >> (8 * i))
	}
	b[0] = tag
	return b
}

func combined(a, b api.Key) api.Key {
	var c api.Key
	for i := range c {
		c[i] = a[i] ^ b[i]
	}
	return c
}

// filled returns the portion with an index of some bytes, filled up.
func filled(b []byte, i int) api.Key {
	var p api.Key
	for j := range p {
		if 16*i+j < len(b) {
			p[j] = b[16*i+j]
		}
	}
	return p
}

func streamed(k api.Key, n uint64, b []byte) []byte {
	out := bytes.Clone(b)
	for i := range out {
		out[i] ^= cipher.Encrypt(k, tagged(1, uint64(i/16), n))[i%16]
	}
	return out
}

func digest(b []byte) api.Key {
	text := append(bytes.Clone(b), 128)
	for (len(text)+8)%16 != 0 {
		text = append(text, 0)
	}
	for i := 7; i >= 0; i-- {
		text = append(text, byte(len(b)>>(8*i)))
	}
	var state api.Key
	copy(state[:], bytes.Repeat([]byte{0x5a}, 16))
	for i := range len(text) / 16 {
		state = combined(cipher.Encrypt(filled(text, i), state), state)
	}
	return state
}

func tag(k api.Key, b []byte) api.Key {
	state := cipher.Encrypt(k, tagged(2, 0, uint64(len(b))))
	for i := range (len(b) + 15) / 16 {
		state = cipher.Encrypt(k, combined(state, filled(b, i)))
	}
	return state
}
