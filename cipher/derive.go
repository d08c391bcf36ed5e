package cipher

import (
	"slices"

	"headend/api"
)

// tagged returns the block of a tag, a counter below 2^56, and a number.
func tagged(tag uint8, counter, n uint64) api.Key {
	return join(uint64(tag)<<56|counter, n)
}

// Derive returns the key that is derived from a key by a tag and a number.
func Derive(k api.Key, tag uint8, n uint64) api.Key {
	return Encrypt(k, tagged(tag, 0, n))
}

// Number returns the number below most that a key and a number give, or 0 if most is 0.
func Number(k api.Key, n, most uint64) uint64 {
	if most == 0 {
		return 0
	}
	first, _ := split(Derive(k, api.TagNumber, n))
	return first % most
}

// Stream returns some bytes, xor the stream of a key and a number.
func Stream(k api.Key, n uint64, b []byte) ([]byte, api.Errno) {
	if len(b) > api.MaxBytes {
		return nil, api.ErrMany
	}
	streamed := make([]byte, 0, len(b))
	counter := uint64(0)
	for portion := range slices.Chunk(b, blockBytes) {
		mask := Encrypt(k, tagged(api.TagStream, counter, n))
		for i, c := range portion {
			streamed = append(streamed, c^mask[i])
		}
		counter++
	}
	return streamed, api.OK
}
