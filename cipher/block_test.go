package cipher_test

import (
	"math/bits"
	"math/rand"
	"testing"

	"headend/api"
	"headend/cipher"
)

func TestPublishedValues(t *testing.T) { // P2.1, Examples
	plain, encrypted := block(t, "6c617669757165207469206564616d20"), block(t, "a65d9851797832657860fedf5c570d18")
	if down() != block(t, "0f0e0d0c0b0a09080706050403020100") {
		t.Error("the key of the example")
	}
	if got := cipher.Encrypt(down(), plain); got != encrypted {
		t.Errorf("%x", got)
	}
	if got := cipher.Decrypt(down(), encrypted); got != plain {
		t.Errorf("%x", got)
	}
}

func TestFixedValues(t *testing.T) { // P2.1
	for _, c := range []struct{ key, plain, encrypted string }{
		{"00000000000000000000000000000000", "00000000000000000000000000000000", "665c02fddcf38d76208ed74c037f0a6d"},
		{"ffffffffffffffffffffffffffffffff", "ffffffffffffffffffffffffffffffff", "3f35e88fba985eb38d3b9d66dc74d36a"},
		{"ffeeddccbbaa99887766554433221100", "0f0e0d0c0b0a09080706050403020100", "8f7d1abe68974081cb4655c4cca64953"},
	} {
		k, plain, encrypted := block(t, c.key), block(t, c.plain), block(t, c.encrypted)
		if got := cipher.Encrypt(k, plain); got != encrypted {
			t.Errorf("%s: %x", c.key, got)
		}
		if got := cipher.Decrypt(k, encrypted); got != plain {
			t.Errorf("%s: %x", c.key, got)
		}
	}
}

// word returns a number of 8 bytes, the highest first.
func word(b []byte) uint64 {
	w := uint64(0)
	for _, c := range b {
		w = 256*w + uint64(c)
	}
	return w
}

// defined returns a block, encrypted as the chapter's terms say: with lists of all l and k.
func defined(key, b api.Key) api.Key {
	var l, k [32]uint64
	l[0], k[0] = word(key[:8]), word(key[8:])
	for i := range 31 {
		l[i+1] = (k[i] + bits.RotateLeft64(l[i], 56)) ^ uint64(i)
		k[i+1] = bits.RotateLeft64(k[i], 3) ^ l[i+1]
	}
	x, y := word(b[:8]), word(b[8:])
	for i := range 32 {
		x = (bits.RotateLeft64(x, 56) + y) ^ k[i]
		y = bits.RotateLeft64(y, 3) ^ x
	}
	var out api.Key
	for i := range 8 {
		out[i] = byte(x >> (56 - 8*i))
		out[8+i] = byte(y >> (56 - 8*i))
	}
	return out
}

func TestEncryptAndDecrypt(t *testing.T) { // P2.1, P2.6
	check := func(k, b api.Key) {
		encrypted := cipher.Encrypt(k, b)
		if encrypted != defined(k, b) {
			t.Fatalf("Encrypt(%x, %x) = %x", k, b, encrypted)
		}
		if back := cipher.Decrypt(k, encrypted); back != b {
			t.Fatalf("Decrypt(%x, %x) = %x", k, encrypted, back)
		}
		if back := cipher.Encrypt(k, cipher.Decrypt(k, b)); back != b {
			t.Fatalf("%x, %x: encrypted again: %x", k, b, back)
		}
	}
	for _, k := range edges(t) {
		for _, b := range edges(t) {
			check(k, b)
		}
	}
	r := rand.New(rand.NewSource(1))
	for range 2000 {
		check(random(r), random(r))
	}
}

func TestEncryptionsDiffer(t *testing.T) { // P2.6
	r := rand.New(rand.NewSource(2))
	for _, k := range edges(t) {
		seen := map[api.Key]api.Key{}
		note := func(b api.Key) {
			encrypted := cipher.Encrypt(k, b)
			if other, ok := seen[encrypted]; ok && other != b {
				t.Fatalf("%x and %x have one encryption", b, other)
			}
			seen[encrypted] = b
		}
		b := random(r)
		note(b)
		for i := range 128 { // blocks that differ in a bit
			b[i/8] ^= 1 << (i % 8)
			note(b)
			b[i/8] ^= 1 << (i % 8)
		}
		for range 500 {
			note(random(r))
		}
	}
}
