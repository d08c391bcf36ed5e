package code_test

import (
	"math/rand"
	"slices"
	"testing"

	"headend/api"
	"headend/code"
)

// isFeasible follows the definition.
func isFeasible(words [][]uint8, y []uint8) bool {
	for i, s := range y {
		same := true
		for _, w := range words {
			same = same && w[i] == words[0][i]
		}
		if same && s != words[0][i] {
			return false
		}
	}
	return true
}

func TestFeasible(t *testing.T) { // P7.1: all small ones
	for places := range 4 {
		words := allLists(places, 2)
		for _, y := range allLists(places, 3) {
			for _, v := range words {
				for _, w := range words {
					for _, l := range [][][]uint8{{v}, {v, w}, {v, v, w}, {v, w, words[0]}} {
						if is, e := code.Feasible(l, y); e != api.OK || is != isFeasible(l, y) {
							t.Fatal(l, y, is, e)
						}
					}
				}
			}
		}
	}
}

func TestFeasibleLarge(t *testing.T) { // P7.1: the edges of the limits, and one wrong place
	r := rand.New(rand.NewSource(1))
	for range 300 {
		words := make([][]uint8, pick(r, 1, 2, 3, 63, 64))
		places := pick(r, 1, 100, 1023, 1024)
		base := someList(r, places, 2)
		for i := range words {
			words[i] = slices.Clone(base)
			for range r.Intn(3) {
				words[i][r.Intn(places)] ^= 1
			}
		}
		y := someFeasible(r, words)
		if is, e := code.Feasible(words, y); e != api.OK || !is {
			t.Fatal(len(words), places, is, e)
		}
		y[r.Intn(places)] = uint8(r.Intn(3))
		if is, e := code.Feasible(words, y); e != api.OK || is != isFeasible(words, y) {
			t.Fatal(len(words), places, is, e)
		}
	}
}

func TestFeasibleOneOfMany(t *testing.T) { // P7.1: one word that differs is enough
	words := slices.Repeat([][]uint8{{0, 1}}, 64)
	for _, y := range allLists(2, 3) {
		if is, e := code.Feasible(words, y); e != api.OK || is != slices.Equal(y, []uint8{0, 1}) {
			t.Error(y, is, e)
		}
		for at := range words {
			l := slices.Clone(words)
			l[at] = []uint8{1, 1}
			if is, e := code.Feasible(l, y); e != api.OK || is != (y[1] == 1) {
				t.Error(at, y, is, e)
			}
		}
	}
}

func TestFeasibleErrors(t *testing.T) { // P7.1, R1
	long := make([]uint8, 1025)
	for name, x := range map[string]struct {
		words [][]uint8
		y     []uint8
		e     api.Errno
	}{
		"no words":                      {nil, nil, api.ErrArg},
		"empty list of words":           {[][]uint8{}, []uint8{0}, api.ErrArg},
		"65 words":                      {slices.Repeat([][]uint8{{0}}, 65), []uint8{0}, api.ErrArg},
		"64 words":                      {slices.Repeat([][]uint8{{0}}, 64), []uint8{0}, api.OK},
		"other lengths":                 {[][]uint8{{0, 1}, {0}}, []uint8{0, 1}, api.ErrArg},
		"a longer word":                 {[][]uint8{{0}, {0, 1}}, []uint8{0}, api.ErrArg},
		"an empty word":                 {[][]uint8{{0}, nil}, []uint8{0}, api.ErrArg},
		"a first empty word":            {[][]uint8{nil, {0}}, []uint8{0}, api.ErrArg},
		"symbol 2 in a word":            {[][]uint8{{0, 1}, {0, 2}}, []uint8{0, 1}, api.ErrArg},
		"symbol 2 in the first word":    {[][]uint8{{2, 1}, {0, 1}}, []uint8{0, 1}, api.ErrArg},
		"symbol 255 in a word":          {[][]uint8{{0, 255}}, []uint8{0, 1}, api.ErrArg},
		"length 1025":                   {[][]uint8{long}, long, api.ErrArg},
		"length 1024":                   {[][]uint8{long[:1024]}, long[:1024], api.OK},
		"words before the copy":         {[][]uint8{{2}}, []uint8{3}, api.ErrArg},
		"number of words first":         {nil, []uint8{3}, api.ErrArg},
		"long words, and no copy":       {[][]uint8{long}, []uint8{3}, api.ErrArg},
		"short copy":                    {[][]uint8{{0, 1}}, []uint8{0}, api.ErrWord},
		"long copy":                     {[][]uint8{{0, 1}}, []uint8{0, 1, 1}, api.ErrWord},
		"no copy":                       {[][]uint8{{0, 1}}, nil, api.ErrWord},
		"symbol 3":                      {[][]uint8{{0, 1}, {0, 0}}, []uint8{0, 3}, api.ErrWord},
		"symbol 255":                    {[][]uint8{{0, 1}, {0, 0}}, []uint8{255, 1}, api.ErrWord},
		"a symbol behind a wrong place": {[][]uint8{{0, 1}}, []uint8{1, 3}, api.ErrWord},
		"no places":                     {[][]uint8{nil, {}}, nil, api.OK},
		"no places, but a copy":         {[][]uint8{nil}, []uint8{0}, api.ErrWord},
	} {
		is, e := code.Feasible(x.words, x.y)
		if e != x.e || is != (x.e == api.OK) {
			t.Errorf("%s: %v, %v", name, is, e)
		}
	}
}
