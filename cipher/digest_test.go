package cipher_test

import (
	"bytes"
	"math/rand"
	"testing"

	"headend/api"
	"headend/cipher"
)

func TestFixedDigestsAndMacs(t *testing.T) { // P2.4
	k := block(t, "ffeeddccbbaa99887766554433221100")
	for _, c := range []struct {
		length      int
		digest, mac string
	}{
		{0, "b971f5df51f8378595ac8d6afd22d2e4", "bb54049c58bae5e1b19f3533dcc14ad5"},
		{1, "311db2549ae376ff17c37292092e9ca1", "c30d950e4242d2cd1781a9ce9e1c0007"},
		{6, "fe6928e5b58001f64fe0a14a80643715", "e1cccf81f69608baf26241e110122cca"},
		{7, "e5a1d50b34d7e5335bb17c0958071192", "93c0d388337ee6c3742895755733f1b1"},
		{8, "517bd584ba6019b53e1537c7fd276069", "ff8440925f26d5a58de809d8ca3b25f8"},
		{15, "437e6e929571f54d59de8334085fe6de", "1edfeb70e90903e000db55ce5ff583d5"},
		{16, "1ecb210de8002f21cd500652a1095c23", "9c3e6a95f3e0ec5ecbd21380e78c3e8f"},
		{17, "19790d5d7806c3164c422ca4dab05b11", "30239825569e58d455eff0172dd37b1c"},
		{23, "002c38d7e466198ef2c5808d17ee7001", "00b50c6935367382add8388aab083bf9"},
		{24, "b2f6f9ae1f3a21f224ef3b3b8972f413", "445f98faea8f1258b7121c9bc0c35e46"},
		{31, "6ca958f1f774e77d87fd137a362995c5", "8c994065ad5119909c0d3974d1594a28"},
		{32, "362fa7288c1524d749b77576f85e7724", "a3288beba8ba65745596ae1ba2ce2b1c"},
		{33, "f800405ee80f0bcf6f37651e5832a368", "6f33ece71a165b77f050f15678c304ef"},
		{api.MaxBytes, "f3d95bd098a31797fe2e9802b0ce5fb7", "18f8aad2e821716b3f86c06ebd8d2337"},
	} {
		if got, e := cipher.Hash(pattern(c.length)); e != api.OK || got != block(t, c.digest) {
			t.Errorf("Hash of %d bytes: %x, %v", c.length, got, e)
		}
		if got, e := cipher.Mac(k, pattern(c.length)); e != api.OK || got != block(t, c.mac) {
			t.Errorf("Mac of %d bytes: %x, %v", c.length, got, e)
		}
	}
}

func TestExamplesOfNoBytes(t *testing.T) { // P2.4, Examples
	s := api.Key(bytes.Repeat([]byte{0x5a}, 16))
	if got, e := cipher.Hash(nil); e != api.OK || got != combined(cipher.Encrypt(api.Key{128}, s), s) {
		t.Errorf("%x, %v", got, e)
	}
	for _, k := range edges(t) {
		if got, e := cipher.Mac(k, nil); e != api.OK || got != cipher.Derive(k, api.TagMac, 0) {
			t.Errorf("%x: %x, %v", k, got, e)
		}
	}
}

func TestDigestAndMacOfAllLengths(t *testing.T) { // P2.4, P2.8
	r := rand.New(rand.NewSource(7))
	for _, n := range lengths() {
		b, k := make([]byte, n), random(r)
		r.Read(b)
		if got, e := cipher.Hash(b); e != api.OK || got != digest(b) {
			t.Fatalf("Hash of %x: %x, %v", b, got, e)
		}
		if got, e := cipher.Mac(k, b); e != api.OK || got != tag(k, b) {
			t.Fatalf("Mac under %x of %x: %x, %v", k, b, got, e)
		}
	}
}

func TestMacsDiffer(t *testing.T) { // P2.8
	r := rand.New(rand.NewSource(8))
	for _, n := range []int{1, 8, 16, 17, 47, 48, 160, api.MaxBytes} {
		b, k := make([]byte, n), random(r)
		r.Read(b)
		first, _ := cipher.Mac(k, b)
		for range 50 {
			other := bytes.Clone(b)
			portion := other[16*r.Intn((n+15)/16):]
			portion = portion[:min(16, len(portion))]
			at := r.Intn(len(portion))
			r.Read(portion[at:])
			if bytes.Equal(other, b) {
				portion[at] ^= byte(1 + r.Intn(255))
			}
			if got, _ := cipher.Mac(k, other); got == first {
				t.Fatalf("%d bytes under %x: one MAC", n, k)
			}
		}
	}
}
