package cipher_test

import (
	"encoding/hex"
	"math/rand"
	"strings"
	"testing"

	"headend/api"
	"headend/cipher"
)

func TestText(t *testing.T) { // P2.5, P2.9
	r := rand.New(rand.NewSource(9))
	keys := edges(t)
	for i := range 256 {
		var k api.Key
		k[i%16] = byte(i)
		keys = append(keys, k, random(r))
	}
	for _, k := range keys {
		s := cipher.Text(k)
		if s != hex.EncodeToString(k[:]) {
			t.Errorf("Text(%x) = %s", k, s)
		}
		if back, e := cipher.Parse(s); e != api.OK || back != k {
			t.Errorf("Parse(%s) = %x, %v", s, back, e)
		}
	}
	if s := cipher.Text(down()); s != "0f0e0d0c0b0a09080706050403020100" {
		t.Error(s)
	}
}

func refuses(t *testing.T, s string) {
	t.Helper()
	if k, e := cipher.Parse(s); e != api.ErrForm || k != (api.Key{}) {
		t.Errorf("Parse(%q) = %x, %v", s, k, e)
	}
}

func TestParseAnyByte(t *testing.T) { // P2.5, P2.9, R2
	whole := cipher.Text(block(t, "0123456789abcdeffedcba9876543210"))
	for at := range whole {
		for c := range 256 {
			s := whole[:at] + string([]byte{byte(c)}) + whole[at+1:]
			if !strings.Contains("0123456789abcdef", string(rune(c))) {
				refuses(t, s)
				continue
			}
			k, e := cipher.Parse(s)
			if e != api.OK || hex.EncodeToString(k[:]) != s || cipher.Text(k) != s {
				t.Errorf("Parse(%q) = %x, %v", s, k, e)
			}
		}
	}
}

func TestParseLengths(t *testing.T) { // P2.5, Examples
	for n := range 100 {
		if n != 32 {
			refuses(t, strings.Repeat("0", n))
		}
	}
	for _, s := range []string{
		"0f0e0d0c0b0a0908070605040302010",
		"0f0e0d0c0b0a090807060504030201000",
		"0F0e0d0c0b0a09080706050403020100",
		"0f0e0d0c0b0a0908070605040302010F",
		" f0e0d0c0b0a09080706050403020100",
		"0f0e0d0c0b0a0908070605040302010\n",
		"0x0e0d0c0b0a09080706050403020100",
		"0f0e0d0c0b0a0908_706050403020100",
		"0f0e0d0c0b0a09080706050403020 é",
		strings.Repeat("é", 16),
		strings.Repeat("é", 32),
		strings.Repeat("\x00", 32),
		strings.Repeat("0", 1<<16),
	} {
		refuses(t, s)
	}
}
