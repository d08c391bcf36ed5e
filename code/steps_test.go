package code_test

import (
	"math/big"
	"math/bits"
	"math/rand"
	"slices"
	"testing"

	"headend/api"
	"headend/code"
)

func TestCheckSteps(t *testing.T) { // P7.2, R5, R6
	for _, limit := range limits() {
		for _, users := range []int{2, 3, 15, 16} {
			for _, block := range []int{1, 2, 63, 64} {
				if e := code.CheckSteps(api.Steps{Users: users, Block: block, Limit: limit}); e != api.OK {
					t.Error(users, block, limit, e)
				}
			}
		}
	}
	for _, c := range wrongSteps() {
		if e := code.CheckSteps(c); e != api.ErrCode {
			t.Error(c, e)
		}
	}
}

func TestWrongStepsComeFirst(t *testing.T) { // P7.2, R1, R2
	for _, c := range wrongSteps() {
		for _, n := range []int{0, -1, 1 << 62} {
			if w, e := code.StepWord(c, n); e != api.ErrCode || len(w) != 0 {
				t.Error("StepWord", c, n, w, e)
			}
			if x, e := code.Threshold(c, n); e != api.ErrCode || x != 0 {
				t.Error("Threshold", c, n, x, e)
			}
		}
		for _, y := range [][]uint8{nil, {0}, {3}, make([]uint8, 4), slices.Repeat([]uint8{7}, 30)} {
			if l, e := code.Weights(c, y); e != api.ErrCode || len(l) != 0 {
				t.Error("Weights", c, y, l, e)
			}
			if l, e := code.TraceSteps(c, y); e != api.ErrCode || len(l) != 0 {
				t.Error("TraceSteps", c, y, l, e)
			}
		}
		if is, e := code.Complete(c); e != api.ErrCode || is {
			t.Error("Complete", c, is, e)
		}
	}
}

func TestStepWord(t *testing.T) { // P7.2
	r := rand.New(rand.NewSource(2))
	for range 300 {
		c := someSteps(r)
		for u := range c.Users {
			w := must[[]uint8](t)(code.StepWord(c, u))
			if !slices.Equal(w, stepWordOf(c, u)) {
				t.Fatal(c, u, w)
			}
		}
		for _, u := range append(wild(), -1, c.Users, c.Users+1) {
			if w, e := code.StepWord(c, u); e != api.ErrArg || len(w) != 0 {
				t.Error(c, u, w, e)
			}
		}
	}
}

func TestStepWordIgnoresTheLimit(t *testing.T) { // P7.2
	c := api.Steps{Users: 5, Block: 3, Key: downKey()}
	for _, limit := range limits() {
		c.Limit = limit
		if w := must[[]uint8](t)(code.StepWord(c, 2)); !slices.Equal(w, stepWordOf(c, 2)) {
			t.Error(limit, w)
		}
	}
}

func TestWeights(t *testing.T) { // P7.2
	r := rand.New(rand.NewSource(3))
	for range 1000 {
		c := someSteps(r)
		want := someWeights(r, c)
		if l := must[[]int](t)(code.Weights(c, withWeights(r, c, want))); !slices.Equal(l, want) {
			t.Fatal(c, l, want)
		}
		y := someList(r, (c.Users-1)*c.Block, 3)
		if l := must[[]int](t)(code.Weights(c, y)); !slices.Equal(l, weightsOf(c, y)) {
			t.Fatal(c, y, l)
		}
		for u := range c.Users {
			w := must[[]uint8](t)(code.StepWord(c, u))
			for block, n := range must[[]int](t)(code.Weights(c, w)) {
				if u <= block && n != c.Block || u > block && n != 0 {
					t.Fatal(c, u, block, n)
				}
			}
		}
	}
}

func TestCopiesThatAreNone(t *testing.T) { // P7.2, P7.3
	r := rand.New(rand.NewSource(4))
	for range 30 {
		c := someSteps(r)
		for _, y := range wrongCopies((c.Users - 1) * c.Block) {
			if l, e := code.Weights(c, y); e != api.ErrWord || len(l) != 0 {
				t.Error("Weights", c, y, l, e)
			}
			if l, e := code.TraceSteps(c, y); e != api.ErrWord || len(l) != 0 {
				t.Error("TraceSteps", c, y, l, e)
			}
		}
	}
}

func TestTail(t *testing.T) { // P7.3
	for d := 1; d <= api.MaxBlock; d++ {
		step := 1
		if d > 12 {
			step = 11
		}
		for k := 0; k <= 2*d; k += step {
			for x := -1; x <= k; x += step {
				isFraction(t, must[api.Fraction](t)(code.Tail(d, k, x)), tailOf(d, k, x), d, k, x)
			}
			isFraction(t, must[api.Fraction](t)(code.Tail(d, k, k)), big.NewRat(1, 1), d, k, k)
		}
		isFraction(t, must[api.Fraction](t)(code.Tail(d, 2*d, d-1)), new(big.Rat), d, 2*d, d-1)
		isFraction(t, must[api.Fraction](t)(code.Tail(d, 2*d, d)), big.NewRat(1, 1), d, 2*d, d)
	}
}

func TestTailCounts(t *testing.T) { // P7.3: of all divisions of a few places
	for d := 1; d <= 5; d++ {
		for k := 0; k <= 2*d; k++ {
			for x := -1; x <= k; x++ {
				all, few := int64(0), int64(0)
				for first := range uint(1 << (2 * d)) {
					if bits.OnesCount(first) != d {
						continue
					}
					all++
					if bits.OnesCount(first&(1<<k-1)) <= x {
						few++
					}
				}
				isFraction(t, must[api.Fraction](t)(code.Tail(d, k, x)), big.NewRat(few, all), d, k, x)
			}
		}
	}
}

func TestTailErrors(t *testing.T) { // P7.3, R5
	fails := func(d, k, x int) {
		if f, e := code.Tail(d, k, x); e != api.ErrArg || len(f.Num) != 0 || len(f.Den) != 0 {
			t.Error(d, k, x, f, e)
		}
	}
	for _, far := range wild() {
		fails(far, 1, 0)
		fails(far, 0, -1)
		fails(far, far, far)
		fails(4, far, 0)
		fails(4, far, far)
		fails(4, 4, far)
	}
	for _, d := range []int{0, -1, 65, 66} {
		fails(d, 0, 0)
		fails(d, 0, -1)
	}
	for _, d := range []int{1, 2, 63, 64} {
		fails(d, -1, -1)
		fails(d, 2*d+1, 0)
		for _, k := range []int{0, 1, d, 2 * d} {
			fails(d, k, -2)
			fails(d, k, k+1)
		}
	}
}

func TestThreshold(t *testing.T) { // P7.3
	r := rand.New(rand.NewSource(5))
	for range 250 {
		c := someSteps(r)
		ks := []int{0, 1, c.Block, 2*c.Block - 1, 2 * c.Block, r.Intn(2*c.Block + 1)}
		if c.Block < 8 {
			for k := range 2 * c.Block {
				ks = append(ks, k)
			}
		}
		for _, k := range ks {
			if x, e := code.Threshold(c, k); e != api.OK || x != thresholdOf(c, k) {
				t.Fatal(c, k, x, e, thresholdOf(c, k))
			}
		}
		for _, k := range append(wild(), -1, 2*c.Block+1) {
			if x, e := code.Threshold(c, k); e != api.ErrArg || x != 0 {
				t.Error(c, k, x, e)
			}
		}
	}
}

func TestThresholdAtATail(t *testing.T) { // P7.3: a tail that is equal to the limit is at most the limit
	for _, d := range []int{1, 2, 5, 64} {
		for _, k := range []int{1, d, d + 1, 2*d - 1} {
			for x := max(0, k-d); x < min(k, d); x++ {
				l := nearLimits(tailOf(d, k, x))
				for i, want := range []int{x, x - 1, x} {
					c := api.Steps{Users: 3, Block: d, Limit: l[i]}
					if got, e := code.Threshold(c, k); e != api.OK || got != want {
						t.Fatal(d, k, x, i, got, e)
					}
				}
			}
		}
	}
}

func TestTraceSteps(t *testing.T) { // P7.3
	r := rand.New(rand.NewSource(6))
	sizes := map[int]int{}
	for range 1500 {
		c := someSteps(r)
		y := pick(r, withWeights(r, c, someWeights(r, c)), someList(r, (c.Users-1)*c.Block, 3))
		want := namedFor(c, weightsOf(c, y))
		if l, e := code.TraceSteps(c, y); e != api.OK || !slices.Equal(l, want) {
			t.Fatal(c, y, l, want, e)
		}
		sizes[len(want)]++
	}
	for n := range 5 {
		if sizes[n] < 30 {
			t.Error("too few with", n, "users:", sizes)
		}
	}
}

func TestTraceAllWeights(t *testing.T) { // P7.3: of small codes
	r := rand.New(rand.NewSource(7))
	for _, limit := range []api.Fraction{part(0, 1), part(1, 20), part(1, 19), part(1, 2), part(19, 20)} {
		c := api.Steps{Users: 4, Block: 3, Key: randomKey(r), Limit: limit}
		for _, weights := range allWeights(c) {
			l, e := code.TraceSteps(c, withWeights(r, c, weights))
			if e != api.OK || !slices.Equal(l, namedFor(c, weights)) {
				t.Error(limit, weights, l, e)
			}
		}
	}
}

func allWeights(c api.Steps) [][]int {
	ls := [][]int{nil}
	for range c.Users - 1 {
		var longer [][]int
		for _, l := range ls {
			for n := range c.Block + 1 {
				longer = append(longer, append(slices.Clone(l), n))
			}
		}
		ls = longer
	}
	return ls
}

// silentWeights returns weights for which no user is named, or nil if there are none.
func silentWeights(c api.Steps) []int {
	thresholds := map[int]int{}
	for k := range 2*c.Block + 1 {
		thresholds[k] = thresholdOf(c, k)
	}
	dead := map[[2]int]bool{}
	var search func(l []int) []int
	search = func(l []int) []int {
		last := l[len(l)-1]
		if len(l) == c.Users-1 {
			if last == c.Block {
				return l
			}
			return nil
		}
		for n := range c.Block + 1 {
			next := [2]int{len(l), n}
			if last <= thresholds[last+n] || dead[next] {
				continue
			}
			if found := search(append(slices.Clone(l), n)); found != nil {
				return found
			}
			dead[next] = true
		}
		return nil
	}
	return search([]int{0})
}

func TestComplete(t *testing.T) { // P7.3
	r := rand.New(rand.NewSource(8))
	results := map[bool]int{}
	for range 500 {
		c := someSteps(r)
		if c.Block == api.MaxBlock && r.Intn(10) > 0 {
			c.Block = 1 + r.Intn(20)
		}
		weights := silentWeights(c)
		is, e := code.Complete(c)
		if e != api.OK || is != (weights == nil) {
			t.Fatal(c, is, e, weights)
		}
		if c.Users > 3 {
			results[is]++
		}
		if weights != nil {
			if l, e := code.TraceSteps(c, withWeights(r, c, weights)); e != api.OK || len(l) != 0 {
				t.Fatal(c, weights, l, e)
			}
		}
	}
	if results[true] < 50 || results[false] < 50 {
		t.Error(results)
	}
}

func TestCompleteOfAllWeights(t *testing.T) { // P7.3: of small codes
	for users := 2; users <= 5; users++ {
		for block := 1; block <= 3; block++ {
			for n := range int64(21) {
				c := api.Steps{Users: users, Block: block, Limit: part(n, 21)}
				want := !slices.ContainsFunc(allWeights(c), func(weights []int) bool { return len(namedFor(c, weights)) == 0 })
				if is, e := code.Complete(c); e != api.OK || is != want {
					t.Error(users, block, n, is, e)
				}
			}
		}
	}
}
