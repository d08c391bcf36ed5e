package code_test

import (
	"math/big"
	"math/rand"
	"slices"
	"testing"

	"headend/api"
	"headend/code"
)

func TestFeasibleExamples(t *testing.T) { // P7.1
	words := [][]uint8{{0, 1, 1}, {0, 0, 1}}
	for i, x := range []struct {
		y  []uint8
		is bool
		e  api.Errno
	}{
		{[]uint8{0, 2, 1}, true, api.OK},
		{[]uint8{1, 0, 1}, false, api.OK},
		{[]uint8{0, 1, 0}, false, api.OK},
		{[]uint8{0, 1}, false, api.ErrWord},
	} {
		if is, e := code.Feasible(words, x.y); is != x.is || e != x.e {
			t.Error(i, is, e)
		}
	}
}

func TestTailExamples(t *testing.T) { // P7.3
	for i, want := range []*big.Rat{new(big.Rat), big.NewRat(1, 6), big.NewRat(5, 6), big.NewRat(1, 1)} {
		isFraction(t, must[api.Fraction](t)(code.Tail(2, 2, i-1)), want, i-1)
	}
	if f, e := code.Tail(2, 5, 0); e != api.ErrArg || len(f.Num) != 0 || len(f.Den) != 0 {
		t.Error(f, e)
	}
}

func TestStepsExamples(t *testing.T) { // P7.3
	c := api.Steps{Users: 3, Block: 2, Key: downKey(), Limit: part(1, 6)}
	for k, want := range []int{-1, -1, 0, 0, 1} {
		if x, e := code.Threshold(c, k); e != api.OK || x != want {
			t.Error(k, x, e)
		}
	}
	r := rand.New(rand.NewSource(31))
	for _, x := range []struct {
		weights []int
		user    int
	}{{[]int{0, 2}, 1}, {[]int{2, 2}, 0}, {[]int{0, 0}, 2}, {[]int{1, 2}, 0}, {[]int{0, 1}, 2}} {
		if l, e := code.TraceSteps(c, withWeights(r, c, x.weights)); e != api.OK || !slices.Equal(l, []int{x.user}) {
			t.Error(x, l, e)
		}
	}
	for _, x := range []struct {
		c  api.Steps
		is bool
	}{
		{api.Steps{Users: 3, Block: 2, Limit: part(1, 6)}, true},
		{api.Steps{Users: 3, Block: 2, Limit: part(1, 7)}, false},
		{api.Steps{Users: 2, Block: 1, Limit: part(0, 1)}, true},
	} {
		if is, e := code.Complete(x.c); e != api.OK || is != x.is {
			t.Error(x, is, e)
		}
	}
}

func TestFirstAndLastWord(t *testing.T) { // P7.2, and the seventh example of the whole
	c := api.Steps{Users: 16, Block: 64, Key: downKey(), Limit: part(1, 6)}
	for u, symbol := range map[int]uint8{0: 1, 15: 0} {
		w := must[[]uint8](t)(code.StepWord(c, u))
		if !slices.Equal(w, slices.Repeat([]uint8{symbol}, 15*64)) {
			t.Error(u, w)
		}
	}
}

func TestScoresExamples(t *testing.T) { // P7.4
	c := api.Scores{Users: 1, Base: 4, Biases: []int{1, 2}}
	for want, y := range map[int][]uint8{1: {1, 1}, -3: {0, 2}, 5: {1, 0}} {
		if n, e := code.Score(c, []uint8{1, 0}, y); e != api.OK || n != want {
			t.Error(y, n, e)
		}
	}
	y := []uint8{1, 1}
	for z, want := range map[int]*big.Rat{5: big.NewRat(1, 8), 1: big.NewRat(5, 8), -2: big.NewRat(5, 8), -3: big.NewRat(1, 1), 6: new(big.Rat)} {
		isFraction(t, must[api.Fraction](t)(code.Chance(c, y, z)), want, z)
	}
	for limit, want := range map[int64]int{8: 2, 9: 6} {
		if n, e := code.Bound(c, y, part(1, limit)); e != api.OK || n != want {
			t.Error(limit, n, e)
		}
	}
}

// digits returns the symbols of a word as a text.
func digits(w []uint8) string {
	var b []byte
	for _, s := range w {
		b = append(b, '0'+s)
	}
	return string(b)
}

func TestFixedWords(t *testing.T) { // P7.2, P7.4, P7.5
	steps := api.Steps{Users: 4, Block: 5, Key: downKey(), Limit: part(1, 6)}
	scores := api.Scores{Users: 3, Base: 10, Biases: []int{1, 2, 3, 4, 5, 6, 7, 8, 9, 5, 5, 5}, Key: downKey()}
	levels := api.Levels{Groups: 3, Members: 3, Block: 4, Key: downKey(), Limit: part(1, 6)}
	var got []string
	for _, u := range []int{1, 2} {
		got = append(got, digits(must[[]uint8](t)(code.StepWord(steps, u))))
		got = append(got, digits(must[[]uint8](t)(code.ScoreWord(scores, u))))
		got = append(got, digits(must[[]uint8](t)(code.LevelWord(levels, 1, u))))
	}
	want := []string{
		"011110110101101", "000111010100", "0101001101000111",
		"000100100101001", "000001111011", "0101001100000000",
	}
	if !slices.Equal(got, want) {
		t.Errorf("%q", got)
	}
}
