package cipher

import (
	"slices"

	"headend/api"
)

// lengthBytes is how many bytes a length takes at the end of what is digested.
const lengthBytes = 8

// fold returns a state after a step for each portion of some bytes; the last portion is filled up.
func fold(state api.Key, b []byte, step func(state, portion api.Key) api.Key) api.Key {
	for part := range slices.Chunk(b, blockBytes) {
		var portion api.Key
		copy(portion[:], part)
		state = step(state, portion)
	}
	return state
}

// Hash returns the digest of some bytes.
func Hash(b []byte) (api.Key, api.Errno) {
	if len(b) > api.MaxBytes {
		return api.Key{}, api.ErrMany
	}
	var first api.Key
	for i := range first {
		first[i] = 0x5a
	}
	return fold(first, padded(b), func(state, portion api.Key) api.Key {
		return xor(Encrypt(portion, state), state)
	}), api.OK
}

// padded returns some bytes with a mark and their number behind them, as whole portions.
func padded(b []byte) []byte {
	rest := (len(b) + 1 + lengthBytes) % blockBytes
	zeros := (blockBytes - rest) % blockBytes
	number := join(0, uint64(len(b)))
	return slices.Concat(b, []byte{128}, make([]byte, zeros), number[blockBytes-lengthBytes:])
}

// Mac returns the tag of some bytes under a key.
func Mac(k api.Key, b []byte) (api.Key, api.Errno) {
	if len(b) > api.MaxBytes {
		return api.Key{}, api.ErrMany
	}
	first := Derive(k, api.TagMac, uint64(len(b)))
	return fold(first, b, func(state, portion api.Key) api.Key {
		return Encrypt(k, xor(state, portion))
	}), api.OK
}
