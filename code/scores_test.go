package code_test

import (
	"math"
	"math/big"
	"math/rand"
	"slices"
	"testing"

	"headend/api"
	"headend/code"
)

func TestCheckScores(t *testing.T) { // P7.2, R5, R6
	for _, users := range []int{1, 2, 63, 64} {
		for _, base := range []int{2, 3, 31, 32} {
			for _, places := range []int{1, 2, 63, 64} {
				for _, bias := range []int{1, base - 1} {
					c := api.Scores{Users: users, Base: base, Biases: slices.Repeat([]int{bias}, places)}
					if e := code.CheckScores(c); e != api.OK {
						t.Error(c, e)
					}
				}
			}
		}
	}
	for _, c := range wrongScores() {
		if e := code.CheckScores(c); e != api.ErrCode {
			t.Error(c, e)
		}
	}
}

func TestWrongScoresComeFirst(t *testing.T) { // P7.2, R1, R2
	for _, c := range wrongScores() {
		for _, u := range []int{0, -1, 1 << 62} {
			if w, e := code.ScoreWord(c, u); e != api.ErrCode || len(w) != 0 {
				t.Error("ScoreWord", c, u, w, e)
			}
		}
		for _, y := range [][]uint8{nil, {0}, {3}, {0, 1}, make([]uint8, 100)} {
			if n, e := code.Score(c, y, y); e != api.ErrCode || n != 0 {
				t.Error("Score", c, y, n, e)
			}
			if f, e := code.Chance(c, y, 0); e != api.ErrCode || len(f.Num) != 0 || len(f.Den) != 0 {
				t.Error("Chance", c, y, f, e)
			}
			for _, limit := range []api.Fraction{part(1, 2), part(1, 1)} {
				if n, e := code.Bound(c, y, limit); e != api.ErrCode || n != 0 {
					t.Error("Bound", c, y, n, e)
				}
				if l, e := code.TraceScores(c, y, limit); e != api.ErrCode || len(l) != 0 {
					t.Error("TraceScores", c, y, l, e)
				}
			}
		}
	}
}

func TestScoreWord(t *testing.T) { // P7.4
	r := rand.New(rand.NewSource(9))
	for range 300 {
		c := pick(r, someScores(r), scoresOf(r, 64, 32, 64))
		for u := range c.Users {
			if w := must[[]uint8](t)(code.ScoreWord(c, u)); !slices.Equal(w, scoreWordOf(c, u)) {
				t.Fatal(c, u, w)
			}
		}
		for _, u := range append(wild(), -1, c.Users, c.Users+1) {
			if w, e := code.ScoreWord(c, u); e != api.ErrArg || len(w) != 0 {
				t.Error(c, u, w, e)
			}
		}
	}
}

func TestScore(t *testing.T) { // P7.4
	r := rand.New(rand.NewSource(10))
	for range 3000 {
		c := pick(r, someScores(r), scoresOf(r, 1, 2+r.Intn(31), 1+r.Intn(64)))
		w, y := someList(r, len(c.Biases), 2), someList(r, len(c.Biases), 3)
		if n, e := code.Score(c, w, y); e != api.OK || n != scoreOf(c, w, y) {
			t.Fatal(c, w, y, n, e)
		}
	}
	high := api.Scores{Users: 1, Base: 32, Biases: slices.Repeat([]int{1}, 64)}
	ones := slices.Repeat([]uint8{1}, 64)
	if n, e := code.Score(high, ones, ones); e != api.OK || n != 31*64 {
		t.Error(n, e)
	}
	if n, e := code.Score(high, ones, make([]uint8, 64)); e != api.OK || n != -31*64 {
		t.Error(n, e)
	}
}

func TestScoreErrors(t *testing.T) { // P7.4, R1
	r := rand.New(rand.NewSource(11))
	for range 30 {
		c := someScores(r)
		places := len(c.Biases)
		good := make([]uint8, places)
		words := wrongCopies(places)
		for i := range places {
			w := make([]uint8, places)
			w[i] = 2
			words = append(words, w)
		}
		for _, w := range words {
			if n, e := code.Score(c, w, good); e != api.ErrWord || n != 0 {
				t.Error(c, w, n, e)
			}
		}
		for _, y := range wrongCopies(places) {
			if n, e := code.Score(c, good, y); e != api.ErrWord || n != 0 {
				t.Error("Score", c, y, n, e)
			}
			if f, e := code.Chance(c, y, 0); e != api.ErrWord || len(f.Num) != 0 || len(f.Den) != 0 {
				t.Error("Chance", c, y, f, e)
			}
			for _, limit := range []api.Fraction{part(1, 2), part(1, 1), {}} {
				if n, e := code.Bound(c, y, limit); e != api.ErrWord || n != 0 {
					t.Error("Bound", c, y, n, e)
				}
				if l, e := code.TraceScores(c, y, limit); e != api.ErrWord || len(l) != 0 {
					t.Error("TraceScores", c, y, l, e)
				}
			}
		}
		for _, limit := range wrongLimits() {
			if n, e := code.Bound(c, good, limit); e != api.ErrArg || n != 0 {
				t.Error("Bound", c, limit, n, e)
			}
			if l, e := code.TraceScores(c, good, limit); e != api.ErrArg || len(l) != 0 {
				t.Error("TraceScores", c, limit, l, e)
			}
		}
	}
}

func TestChance(t *testing.T) { // P7.4, P7.8
	r := rand.New(rand.NewSource(12))
	for range 200 {
		c := someScores(r)
		y := someList(r, len(c.Biases), 3)
		least, greatest := scoreRange(c, y)
		for z := least - 2; z <= greatest+2; z++ {
			isFraction(t, must[api.Fraction](t)(code.Chance(c, y, z)), chanceOf(c, y, z), c, y, z)
		}
		for _, z := range wild() {
			isFraction(t, must[api.Fraction](t)(code.Chance(c, y, z)), chanceOf(c, y, z), c, y, z)
		}
	}
}

func TestChanceLarge(t *testing.T) { // P7.4, R5: the largest codes, and numbers of any size
	r := rand.New(rand.NewSource(13))
	for range 8 {
		c := scoresOf(r, 1, pick(r, 2, 31, 32), pick(r, 63, 64))
		y := pick(r, someList(r, len(c.Biases), 3), someList(r, len(c.Biases), 2))
		least, greatest := scoreRange(c, y)
		for _, z := range []int{least, least + 1, greatest, greatest - 1, 0, 1, least + r.Intn(greatest-least+1)} {
			isFraction(t, must[api.Fraction](t)(code.Chance(c, y, z)), chanceOf(c, y, z), c, y, z)
		}
		for _, z := range []int{greatest + 1, math.MaxInt, math.MaxInt - 1} {
			isFraction(t, must[api.Fraction](t)(code.Chance(c, y, z)), new(big.Rat), c, y, z)
		}
		for _, z := range []int{least - 1, math.MinInt, math.MinInt + 1} {
			isFraction(t, must[api.Fraction](t)(code.Chance(c, y, z)), big.NewRat(1, 1), c, y, z)
		}
	}
}

// limitsFor returns limits, most of them near the chance of a score.
func limitsFor(r *rand.Rand, c api.Scores, y []uint8) []api.Fraction {
	l := append(limits(), part(1, 3), part(1, 1000))
	least, greatest := scoreRange(c, y)
	for range 6 {
		x := chanceOf(c, y, least+r.Intn(greatest-least+1))
		if x.Cmp(big.NewRat(1, 1)) < 0 && x.Denom().BitLen() <= 128 {
			l = append(l, nearLimits(x)...)
		}
	}
	return l
}

func TestBound(t *testing.T) { // P7.4
	r := rand.New(rand.NewSource(14))
	for range 150 {
		c := someScores(r)
		y := someList(r, len(c.Biases), 3)
		for _, limit := range limitsFor(r, c, y) {
			if n, e := code.Bound(c, y, limit); e != api.OK || n != boundOf(c, y, limit) {
				t.Fatal(c, y, limit, n, e, boundOf(c, y, limit))
			}
		}
	}
}

func TestBoundLarge(t *testing.T) { // P7.4
	r := rand.New(rand.NewSource(15))
	for range 8 {
		c := scoresOf(r, 1, pick(r, 2, 31, 32), 64)
		y := someList(r, 64, 3)
		least, greatest := scoreRange(c, y)
		for _, limit := range limits() {
			n, e := code.Bound(c, y, limit)
			isLeast := chanceOf(c, y, n).Cmp(toRat(limit)) <= 0 && chanceOf(c, y, n-1).Cmp(toRat(limit)) > 0
			if e != api.OK || !isLeast || n <= least || n > greatest+1 {
				t.Error(c, y, limit, n, e)
			}
		}
	}
}

func TestBoundOfUnreadableCopies(t *testing.T) { // P7.4: each word has the score 0
	c := api.Scores{Users: 3, Base: 4, Biases: []int{1, 2, 3}}
	for _, limit := range limits() {
		if n, e := code.Bound(c, []uint8{2, 2, 2}, limit); e != api.OK || n != 1 {
			t.Error(limit, n, e)
		}
		if l, e := code.TraceScores(c, []uint8{2, 2, 2}, limit); e != api.OK || len(l) != 0 {
			t.Error(limit, l, e)
		}
	}
}

func TestTraceScores(t *testing.T) { // P7.4
	r := rand.New(rand.NewSource(16))
	sizes := map[int]int{}
	for range 150 {
		c := pick(r, someScores(r), scoresOf(r, 1+r.Intn(64), 4, 1+r.Intn(10)))
		words := [][]uint8{scoreWordOf(c, 0), scoreWordOf(c, c.Users-1)}
		y := pick(r, someFeasible(r, words), words[0], someList(r, len(c.Biases), 3))
		for _, limit := range limitsFor(r, c, y) {
			bound := boundOf(c, y, limit)
			var want []int
			for u := range c.Users {
				if scoreOf(c, scoreWordOf(c, u), y) >= bound {
					want = append(want, u)
				}
			}
			if l, e := code.TraceScores(c, y, limit); e != api.OK || !slices.Equal(l, want) {
				t.Fatal(c, y, limit, l, e, want)
			}
			sizes[min(len(want), 2)]++
		}
	}
	for n := range 3 {
		if sizes[n] < 100 {
			t.Error("too few with", n, "users:", sizes)
		}
	}
}

func TestTraceOneOfMany(t *testing.T) { // P7.4: the copy of a long word names its user alone
	r := rand.New(rand.NewSource(17))
	for range 5 {
		c := api.Scores{Users: 64, Base: 32, Biases: slices.Repeat([]int{16}, 64), Key: randomKey(r)}
		for _, u := range []int{0, 1, 31, 63} {
			y := must[[]uint8](t)(code.ScoreWord(c, u))
			if l, e := code.TraceScores(c, y, part(1, 1<<40)); e != api.OK || !slices.Equal(l, []int{u}) {
				t.Error(u, l, e)
			}
		}
	}
}
