// Package cipher is layer 2: a block cipher, and what is made of it: derived keys, numbers, streams, digests and MACs. See shared/doc/02-cipher.md.
package cipher

import (
	"iter"
	"math/bits"

	"headend/api"
)

const (
	blockBytes = len(api.Key{})
	wordBytes  = blockBytes / 2
	rounds     = 32
)

// split returns the words of a block.
func split(b api.Key) (x, y uint64) {
	for i := range wordBytes {
		x = x<<8 | uint64(b[i])
		y = y<<8 | uint64(b[wordBytes+i])
	}
	return x, y
}

// join returns the block of two words.
func join(x, y uint64) api.Key {
	var b api.Key
	for i := wordBytes - 1; i >= 0; i-- {
		b[i], b[wordBytes+i] = byte(x), byte(y)
		x >>= 8
		y >>= 8
	}
	return b
}

// round mixes two words with a round key.
func round(x, y, key uint64) (uint64, uint64) {
	x = (bits.RotateLeft64(x, -8) + y) ^ key
	return x, bits.RotateLeft64(y, 3) ^ x
}

// unround undoes round.
func unround(x, y, key uint64) (uint64, uint64) {
	y = bits.RotateLeft64(y^x, -3)
	return bits.RotateLeft64((x^key)-y, 8), y
}

// roundKeys yields the round keys of a key.
func roundKeys(k api.Key) iter.Seq[uint64] {
	return func(yield func(uint64) bool) {
		l, key := split(k)
		for i := range uint64(rounds) {
			if !yield(key) {
				return
			}
			// The next round key comes from a round of the cipher itself, with the number of this one as its key.
			l, key = round(l, key, i)
		}
	}
}

// Encrypt returns a block, encrypted under a key.
func Encrypt(k, b api.Key) api.Key {
	x, y := split(b)
	for key := range roundKeys(k) {
		x, y = round(x, y, key)
	}
	return join(x, y)
}

// Decrypt returns a block, decrypted under a key.
func Decrypt(k, b api.Key) api.Key {
	var keys [rounds]uint64
	i := rounds
	for key := range roundKeys(k) {
		i--
		keys[i] = key
	}
	x, y := split(b)
	for _, key := range keys {
		x, y = unround(x, y, key)
	}
	return join(x, y)
}

// xor returns two blocks, combined bit by bit.
func xor(a, b api.Key) api.Key {
	for i := range a {
		a[i] ^= b[i]
	}
	return a
}
