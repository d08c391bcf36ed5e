package code_test

import (
	"math/big"
	"math/bits"
	"math/rand"
	"slices"
	"testing"

	"headend/api"
	"headend/code"
)

// mostOfOne returns 1 / C(2 * d, d), below which a code of steps with blocks of d places does not name the user between two.
func mostOfOne(d int) *big.Rat {
	return ratio(big.NewInt(1), new(big.Int).Binomial(int64(2*d), int64(d)))
}

// wordsOf returns the words of some users of a code of steps.
func wordsOf(t *testing.T, c api.Steps, users ...int) [][]uint8 {
	t.Helper()
	var l [][]uint8
	for _, u := range users {
		l = append(l, must[[]uint8](t)(code.StepWord(c, u)))
	}
	return l
}

// someUsers returns from 1 to n users below n, in any order.
func someUsers(r *rand.Rand, n int) []int { return r.Perm(n)[:1+r.Intn(n)] }

func TestCompleteCodesNameUsers(t *testing.T) { // P7.6
	r := rand.New(rand.NewSource(21))
	complete := 0
	for range 700 {
		c := someSteps(r)
		if is := must[bool](t)(code.Complete(c)); !is {
			continue
		}
		complete++
		for range 10 {
			y := pick(r,
				someList(r, (c.Users-1)*c.Block, 3),
				withWeights(r, c, someWeights(r, c)),
				someFeasible(r, wordsOf(t, c, someUsers(r, c.Users)...)))
			if l := must[[]int](t)(code.TraceSteps(c, y)); len(l) == 0 {
				t.Fatal(c, y)
			}
		}
	}
	if complete < 150 {
		t.Error("too few complete codes:", complete)
	}
}

func TestFirstAndLastUser(t *testing.T) { // P7.6
	r := rand.New(rand.NewSource(22))
	for range 2000 {
		c := someSteps(r)
		users := someUsers(r, c.Users)
		words := wordsOf(t, c, users...)
		y := someFeasible(r, words)
		if is := must[bool](t)(code.Feasible(words, y)); !is {
			t.Fatal(words, y)
		}
		for _, u := range must[[]int](t)(code.TraceSteps(c, y)) {
			if (u == 0 || u == c.Users-1) && !slices.Contains(users, u) {
				t.Fatal(c, users, y, u)
			}
		}
	}
}

// placesOf returns the places of the two blocks between which a user has its step.
func placesOf(t *testing.T, c api.Steps, u int) (first, second []int) {
	t.Helper()
	words := wordsOf(t, c, u-1, u, u+1)
	for i := range words[0] {
		switch {
		case words[0][i] != words[1][i]:
			first = append(first, i)
		case words[1][i] != words[2][i]:
			second = append(second, i)
		}
	}
	return first, second
}

func TestStepsDoNotShow(t *testing.T) { // P7.6: all others have one symbol in both blocks of a user
	r := rand.New(rand.NewSource(23))
	for range 100 {
		c := someSteps(r)
		for u := 1; u < c.Users-1; u++ {
			first, second := placesOf(t, c, u)
			if len(first) != c.Block || len(second) != c.Block {
				t.Fatal(c, u, first, second)
			}
			own := wordsOf(t, c, u)[0]
			for _, i := range first {
				if own[i] != 0 {
					t.Fatal(c, u, own)
				}
			}
			for _, i := range second {
				if own[i] != 1 {
					t.Fatal(c, u, own)
				}
			}
			for other := range c.Users {
				w := wordsOf(t, c, other)[0]
				for _, i := range slices.Concat(first, second) {
					if other != u && w[i] != w[first[0]] {
						t.Fatal(c, u, other, w)
					}
				}
			}
		}
	}
}

// divided returns a copy with the symbols that y has in the places of two blocks: those of a set first, then the others.
func divided(y []uint8, places []int, set uint) []uint8 {
	var first, second []uint8
	for i, place := range places {
		if set>>i&1 == 1 {
			first = append(first, y[place])
		} else {
			second = append(second, y[place])
		}
	}
	y = slices.Clone(y)
	for i, s := range append(first, second...) {
		y[places[i]] = s
	}
	return y
}

func TestShareOfDivisions(t *testing.T) { // P7.6
	r := rand.New(rand.NewSource(24))
	accused := 0
	for range 200 {
		c := api.Steps{Users: 3 + r.Intn(3), Block: 1 + r.Intn(4), Key: randomKey(r)}
		c.Limit = someLimit(r, c.Block)
		u := 1 + r.Intn(c.Users-2)
		first, second := placesOf(t, c, u)
		places := slices.Concat(first, second)
		others := slices.DeleteFunc(someUsers(r, c.Users), func(v int) bool { return v == u })
		y := someList(r, (c.Users-1)*c.Block, 3)
		if len(others) > 0 && r.Intn(2) == 0 {
			y = someFeasible(r, wordsOf(t, c, others...))
		}
		all, named := int64(0), int64(0)
		for set := range uint(1 << len(places)) {
			if bits.OnesCount(set) != c.Block {
				continue
			}
			all++
			if slices.Contains(must[[]int](t)(code.TraceSteps(c, divided(y, places, set))), u) {
				named++
			}
		}
		if big.NewRat(named, all).Cmp(toRat(c.Limit)) > 0 {
			t.Fatal(c, u, y, named, all)
		}
		if named > 0 {
			accused++
		}
	}
	if accused < 20 {
		t.Error("too few that name an innocent user:", accused)
	}
}

func TestTailsAddUp(t *testing.T) { // P7.7
	for _, d := range []int{1, 2, 3, 7, 8, 20, 63, 64} {
		for k := 0; k <= 2*d; k += 1 + d/8 {
			for x := -1; x <= k; x += 1 + d/10 {
				f, g := must[api.Fraction](t)(code.Tail(d, k, x)), must[api.Fraction](t)(code.Tail(d, k, k-x-1))
				if new(big.Rat).Add(toRat(f), toRat(g)).Cmp(big.NewRat(1, 1)) != 0 {
					t.Error(d, k, x, f, g)
				}
			}
		}
	}
}

func TestGreaterLimits(t *testing.T) { // P7.7
	r := rand.New(rand.NewSource(25))
	for range 300 {
		low := someSteps(r)
		high := low
		high.Limit = someLimit(r, low.Block)
		if toRat(high.Limit).Cmp(toRat(low.Limit)) < 0 {
			low, high = high, low
		}
		k := r.Intn(2*low.Block + 1)
		if must[int](t)(code.Threshold(high, k)) < must[int](t)(code.Threshold(low, k)) {
			t.Error(low, high, k)
		}
	}
}

func TestOneUserAlone(t *testing.T) { // P7.7
	r := rand.New(rand.NewSource(26))
	for range 300 {
		c := someSteps(r)
		c.Limit = pick(r, append(nearLimits(mostOfOne(c.Block)), c.Limit)...)
		isEnough := toRat(c.Limit).Cmp(mostOfOne(c.Block)) >= 0
		for u := range c.Users {
			l := must[[]int](t)(code.TraceSteps(c, wordsOf(t, c, u)[0]))
			if isEnough && !slices.Equal(l, []int{u}) {
				t.Fatal(c, u, l)
			}
			if !isEnough && u > 0 && u < c.Users-1 && len(l) > 0 {
				t.Fatal(c, u, l)
			}
		}
	}
}

func TestSmallCodesThatAreComplete(t *testing.T) { // P7.7
	for _, d := range []int{1, 2, 3, 4, 5, 6, 7, 8, 20, 33, 63, 64} {
		for i, limit := range append(nearLimits(mostOfOne(d)), part(0, 1), part(999, 1000)) {
			if is := must[bool](t)(code.Complete(api.Steps{Users: 2, Block: d, Limit: limit})); !is {
				t.Error("2 users:", d, limit)
			}
			if is := must[bool](t)(code.Complete(api.Steps{Users: 3, Block: d, Limit: limit})); is != (toRat(limit).Cmp(mostOfOne(d)) >= 0) {
				t.Error("3 users:", d, i, limit, is)
			}
		}
	}
}

// wordChance returns the chance of a word: in each place, independently, it has a 1 with the chance of the bias.
func wordChance(c api.Scores, w []uint8) *big.Rat {
	x := big.NewRat(1, 1)
	for i, a := range c.Biases {
		one := big.NewRat(int64(a), int64(c.Base))
		if w[i] == 0 {
			one.Sub(big.NewRat(1, 1), one)
		}
		x.Mul(x, one)
	}
	return x
}

func TestChanceIsThatOfAllWords(t *testing.T) { // P7.8
	r := rand.New(rand.NewSource(27))
	for range 150 {
		c := someScores(r)
		y := someList(r, len(c.Biases), 3)
		words := allLists(len(c.Biases), 2)
		atLeast := func(z int) *big.Rat {
			sum := new(big.Rat)
			for _, w := range words {
				if must[int](t)(code.Score(c, w, y)) >= z {
					sum.Add(sum, wordChance(c, w))
				}
			}
			return sum
		}
		least, greatest := scoreRange(c, y)
		for range 5 {
			z := least - 1 + r.Intn(greatest-least+3)
			isFraction(t, must[api.Fraction](t)(code.Chance(c, y, z)), atLeast(z), c, y, z)
		}
		limit := pick(r, part(0, 1), part(1, 4), part(1, 100), part(9, 10), fromRat(chanceOf(c, y, greatest)))
		if toRat(limit).Cmp(big.NewRat(1, 1)) >= 0 {
			continue
		}
		if bound := must[int](t)(code.Bound(c, y, limit)); atLeast(bound).Cmp(toRat(limit)) > 0 || atLeast(bound-1).Cmp(toRat(limit)) <= 0 {
			t.Fatal(c, y, limit, bound)
		}
	}
}

func TestChanceDoesNotGrow(t *testing.T) { // P7.8
	r := rand.New(rand.NewSource(28))
	for range 30 {
		c := scoresOf(r, 1, 2+r.Intn(31), 1+r.Intn(20))
		y := someList(r, len(c.Biases), 3)
		least, greatest := scoreRange(c, y)
		before := big.NewRat(1, 1)
		for z := least; z <= greatest+1; z++ {
			x := toRat(must[api.Fraction](t)(code.Chance(c, y, z)))
			isOne, isZero := x.Cmp(big.NewRat(1, 1)) == 0, x.Sign() == 0
			if x.Cmp(before) > 0 || isOne != (z == least) || isZero != (z > greatest) {
				t.Fatal(c, y, z, x)
			}
			before = x
		}
	}
}

func TestNoWordIsBetterThanTheCopy(t *testing.T) { // P7.8
	r := rand.New(rand.NewSource(29))
	for range 200 {
		c := scoresOf(r, 1, 2+r.Intn(31), 1+r.Intn(7))
		y := someList(r, len(c.Biases), 3)
		own := slices.Clone(y)
		for i := range own {
			if own[i] == 2 {
				own[i] = uint8(r.Intn(2))
			}
		}
		best := must[int](t)(code.Score(c, own, y))
		for _, w := range allLists(len(c.Biases), 2) {
			differs := false
			for i := range w {
				differs = differs || y[i] != 2 && w[i] != y[i]
			}
			if n := must[int](t)(code.Score(c, w, y)); n > best || differs != (n < best) {
				t.Fatal(c, w, y, n, best)
			}
		}
	}
}

func TestOneGroup(t *testing.T) { // P7.9
	r := rand.New(rand.NewSource(30))
	complete, others := 0, 0
	for range 1500 {
		c := someLevels(r)
		g := r.Intn(c.Groups)
		var words [][]uint8
		for _, m := range someUsers(r, c.Members) {
			words = append(words, must[[]uint8](t)(code.LevelWord(c, g, m)))
		}
		y := someFeasible(r, words)
		if is := must[bool](t)(code.Feasible(words, y)); !is {
			t.Fatal(words, y)
		}
		if toRat(c.Limit).Cmp(mostOfOne(c.Block)) < 0 {
			others++
			continue
		}
		_, members := levelCodes(c)
		isComplete := must[bool](t)(code.Complete(members[g]))
		l := must[[]api.Accused](t)(code.TraceLevels(c, y))
		if len(l) == 0 || slices.ContainsFunc(l, func(a api.Accused) bool { return a.Group != g }) {
			t.Fatal(c, g, l)
		}
		if isComplete {
			complete++
			if slices.ContainsFunc(l, func(a api.Accused) bool { return a.Member == -1 }) {
				t.Fatal(c, g, l)
			}
		}
	}
	if complete < 200 || others == 0 {
		t.Error(complete, others)
	}
}
