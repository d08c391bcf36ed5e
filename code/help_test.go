package code_test

import (
	"math"
	"math/big"
	"math/rand"
	"slices"
	"testing"

	"headend/api"
	"headend/cipher"
	"headend/number"
)

// must returns the result of a call that has no error.
func must[T any](t *testing.T) func(result T, e api.Errno) T {
	t.Helper()
	return func(result T, e api.Errno) T {
		t.Helper()
		if e != api.OK {
			t.Fatal("unexpected error:", e)
		}
		return result
	}
}

func pick[T any](r *rand.Rand, l ...T) T { return l[r.Intn(len(l))] }

// wild returns numbers that are outside of all ranges, except for those of the scores.
func wild() []int {
	return []int{
		-2, -3, -64, -1000, math.MinInt, math.MinInt + 1, math.MinInt32, -1 << 33, -1 << 62,
		1025, 1 << 20, math.MaxInt32, 1 << 32, 1<<32 + 1, 1<<32 + 2, 1 << 40, 1 << 62, 1<<63 - 16, math.MaxInt - 1, math.MaxInt,
	}
}

func randomKey(r *rand.Rand) api.Key {
	var k api.Key
	r.Read(k[:])
	return k
}

// downKey is the key of the fixed values: its bytes are 15 down to 0.
func downKey() api.Key {
	var k api.Key
	for i := range k {
		k[i] = byte(15 - i)
	}
	return k
}

func toBig(a api.Natural) *big.Int {
	n := new(big.Int)
	for _, d := range slices.Backward(a) {
		n.Lsh(n, 32).Or(n, big.NewInt(int64(d)))
	}
	return n
}

func fromBig(n *big.Int) api.Natural {
	var a api.Natural
	for n = new(big.Int).Set(n); n.Sign() > 0; n.Rsh(n, 32) {
		a = append(a, uint32(n.Uint64()))
	}
	return a
}

// toRat returns the number of a fraction whose Den is not 0.
func toRat(f api.Fraction) *big.Rat { return new(big.Rat).SetFrac(toBig(f.Num), toBig(f.Den)) }

func fromRat(x *big.Rat) api.Fraction {
	return api.Fraction{Num: fromBig(x.Num()), Den: fromBig(x.Denom())}
}

// part returns the valid fraction a / b.
func part(a, b int64) api.Fraction { return fromRat(big.NewRat(a, b)) }

// isFraction fails unless a fraction is valid, and the wanted number.
func isFraction(t *testing.T, f api.Fraction, want *big.Rat, of ...any) {
	t.Helper()
	if number.CheckFraction(f) != api.OK || toRat(f).Cmp(want) != 0 {
		t.Errorf("%v: %v instead of %v", of, f, want)
	}
}

// powerOfTwo returns 2^n, plus a small number.
func powerOfTwo(n uint, more int64) *big.Int {
	p := new(big.Int).Lsh(big.NewInt(1), n)
	return p.Add(p, big.NewInt(more))
}

func ratio(a, b *big.Int) *big.Rat { return new(big.Rat).SetFrac(a, b) }

// limits returns limits at the edges of what a limit is.
func limits() []api.Fraction {
	one := big.NewInt(1)
	return []api.Fraction{
		{Den: api.Natural{1}},
		part(1, 2),
		part(1<<32-1, 1<<32),
		fromRat(ratio(one, powerOfTwo(127, 0))),
		fromRat(ratio(one, powerOfTwo(128, -1))),
		fromRat(ratio(powerOfTwo(128, -2), powerOfTwo(128, -1))),
	}
}

// wrongLimits returns fractions that are no limits.
func wrongLimits() []api.Fraction {
	one := big.NewInt(1)
	return []api.Fraction{
		{},
		{Num: api.Natural{1}},
		{Den: api.Natural{2}},
		{Num: api.Natural{}, Den: api.Natural{}},
		{Den: api.Natural{1, 0}},
		{Num: api.Natural{0}, Den: api.Natural{1}},
		{Num: api.Natural{1, 0}, Den: api.Natural{2}},
		{Num: api.Natural{2}, Den: api.Natural{4}},
		{Num: api.Natural{2}, Den: api.Natural{2}},
		part(1, 1),
		part(3, 2),
		part(5, 1),
		fromRat(ratio(powerOfTwo(128, -1), powerOfTwo(128, -2))),
		fromRat(ratio(one, powerOfTwo(128, 0))),
		fromRat(ratio(powerOfTwo(128, 0), powerOfTwo(128, 1))),
		fromRat(ratio(powerOfTwo(128, -1), powerOfTwo(128, 0))),
		fromRat(ratio(powerOfTwo(128, 0), one)),
		fromRat(ratio(one, powerOfTwo(511, 0))),
		{Num: api.Natural{1}, Den: slices.Repeat(api.Natural{1}, 17)},
		{Num: slices.Repeat(api.Natural{1}, 17), Den: slices.Repeat(api.Natural{1}, 17)},
		{Num: slices.Repeat(api.Natural{0}, 1000), Den: slices.Repeat(api.Natural{0}, 1000)},
	}
}

// nearLimits returns the limits that are equal to a chance below 1, a little less, and a little more.
func nearLimits(x *big.Rat) []api.Fraction {
	l := []api.Fraction{fromRat(x)}
	scale := new(big.Int).Quo(powerOfTwo(128, -1), x.Denom())
	num, den := new(big.Int).Mul(x.Num(), scale), new(big.Int).Mul(x.Denom(), scale)
	for _, more := range []int64{-1, 1} {
		near := new(big.Int).Add(num, big.NewInt(more))
		if near.Sign() >= 0 && near.Cmp(den) < 0 {
			l = append(l, fromRat(ratio(near, den)))
		}
	}
	return l
}

// someLimit returns a limit, often one that is near a tail of two blocks of d places.
func someLimit(r *rand.Rand, d int) api.Fraction {
	switch r.Intn(6) {
	case 0:
		return pick(r, limits()...)
	case 1, 2:
		den := 2 + r.Int63n(1<<uint(1+r.Intn(40)))
		return part(r.Int63n(den), den)
	}
	k := 1 + r.Intn(2*d)
	x := max(0, k-d) + r.Intn(min(k, d)-max(0, k-d)+1) - 1
	return pick(r, nearLimits(tailOf(d, k, x))...)
}

func someSteps(r *rand.Rand) api.Steps {
	c := api.Steps{Users: 2 + r.Intn(5), Block: 1 + r.Intn(6), Key: randomKey(r)}
	if r.Intn(5) == 0 {
		c.Users, c.Block = pick(r, 2, 3, api.MaxSteps), pick(r, 1, 7, api.MaxBlock)
	}
	c.Limit = someLimit(r, c.Block)
	return c
}

// wrongSteps returns codes of steps that are not valid.
func wrongSteps() []api.Steps {
	good := api.Steps{Users: 3, Block: 2, Limit: part(1, 6)}
	l := []api.Steps{{}}
	for _, n := range append(wild(), -1, 0, 1, 17, 65) {
		c := good
		c.Users = n
		l = append(l, c)
	}
	for _, n := range append(wild(), -1, 0, 65, 66) {
		c := good
		c.Block = n
		l = append(l, c)
	}
	for _, f := range wrongLimits() {
		c := good
		c.Limit = f
		l = append(l, c)
	}
	return l
}

func someScores(r *rand.Rand) api.Scores {
	return scoresOf(r, 1+r.Intn(8), 2+r.Intn(6), 1+r.Intn(7))
}

// scoresOf returns a code of scores with so many places.
func scoresOf(r *rand.Rand, users, base, places int) api.Scores {
	c := api.Scores{Users: users, Base: base, Key: randomKey(r)}
	for range places {
		c.Biases = append(c.Biases, pick(r, 1, base-1, 1+r.Intn(base-1)))
	}
	return c
}

// wrongScores returns codes of scores that are not valid.
func wrongScores() []api.Scores {
	l := []api.Scores{{}, {Users: 1, Base: 2}, {Users: 1, Base: 2, Biases: []int{}}, {Users: 1, Base: 32, Biases: slices.Repeat([]int{1}, 65)}}
	for _, n := range append(wild(), -1, 0, 65) {
		l = append(l, api.Scores{Users: n, Base: 4, Biases: []int{1, 2}})
	}
	for _, n := range append(wild(), -1, 0, 1, 2, 33) {
		l = append(l, api.Scores{Users: 3, Base: n, Biases: []int{1, 2}})
	}
	for _, n := range append(wild(), -1, 0, 4, 5) {
		l = append(l, api.Scores{Users: 3, Base: 4, Biases: []int{n}}, api.Scores{Users: 3, Base: 4, Biases: []int{1, 3, n}})
	}
	return l
}

func someLevels(r *rand.Rand) api.Levels {
	c := api.Levels{Groups: 2 + r.Intn(4), Members: 2 + r.Intn(4), Block: 1 + r.Intn(4), Key: randomKey(r)}
	c.Limit = someLimit(r, c.Block)
	return c
}

// wrongLevels returns codes of two levels that are not valid.
func wrongLevels() []api.Levels {
	l := []api.Levels{{}}
	for _, c := range wrongSteps() {
		l = append(l, api.Levels{Groups: c.Users, Members: 3, Block: c.Block, Limit: c.Limit})
		l = append(l, api.Levels{Groups: 16, Members: c.Users, Block: c.Block, Limit: c.Limit})
	}
	return l
}

// someList returns a list of symbols below most.
func someList(r *rand.Rand, places, most int) []uint8 {
	l := make([]uint8, places)
	for i := range l {
		l[i] = uint8(r.Intn(most))
	}
	return l
}

// someFeasible returns a copy that is feasible for some words.
func someFeasible(r *rand.Rand, words [][]uint8) []uint8 {
	y := slices.Clone(words[0])
	for i := range y {
		if slices.ContainsFunc(words, func(w []uint8) bool { return w[i] != y[i] }) {
			y[i] = uint8(r.Intn(3))
		}
	}
	return y
}

// allLists returns all lists of symbols below most.
func allLists(places, most int) [][]uint8 {
	ls := [][]uint8{{}}
	for range places {
		var longer [][]uint8
		for _, l := range ls {
			for s := range most {
				longer = append(longer, append(slices.Clone(l), uint8(s)))
			}
		}
		ls = longer
	}
	return ls
}

// wrongCopies returns lists that are no copies of so many places.
func wrongCopies(places int) [][]uint8 {
	ls := [][]uint8{make([]uint8, places+1), make([]uint8, places-1), make([]uint8, 2*places), slices.Repeat([]uint8{2}, 5000)}
	for _, s := range []uint8{3, 4, 128, 255, '0', '1'} {
		for _, at := range []int{0, places / 2, places - 1} {
			y := make([]uint8, places)
			y[at] = s
			ls = append(ls, y)
		}
	}
	return append(ls, nil)
}

// The functions below follow the chapter's terms.

// tailOf follows the sum of the definition.
func tailOf(d, k, x int) *big.Rat {
	n := new(big.Int)
	for i := 0; i <= min(x, d); i++ {
		ways := new(big.Int).Binomial(int64(k), int64(i))
		n.Add(n, ways.Mul(ways, new(big.Int).Binomial(int64(2*d-k), int64(d-i))))
	}
	return ratio(n, new(big.Int).Binomial(int64(2*d), int64(d)))
}

func thresholdOf(c api.Steps, k int) int {
	x := k
	for tailOf(c.Block, k, x).Cmp(toRat(c.Limit)) > 0 {
		x--
	}
	return x
}

// columnsOf returns the place of each column.
func columnsOf(c api.Steps) []int {
	k := cipher.Derive(c.Key, 70, 0)
	var list []int
	for column := range (c.Users - 1) * c.Block {
		list = append(list, column)
	}
	for i := len(list) - 1; i > 0; i-- {
		j := int(cipher.Number(k, uint64(i), uint64(i)+1))
		list[i], list[j] = list[j], list[i]
	}
	return list
}

func stepWordOf(c api.Steps, u int) []uint8 {
	list := columnsOf(c)
	w := make([]uint8, len(list))
	for block := range c.Users - 1 {
		for i := range c.Block {
			if u >= 0 && u <= block {
				w[list[block*c.Block+i]] = 1
			}
		}
	}
	return w
}

// withWeights returns a copy with such weights; where it has no 1 it has a 0 or a 2.
func withWeights(r *rand.Rand, c api.Steps, weights []int) []uint8 {
	list := columnsOf(c)
	y := make([]uint8, len(list))
	for block, n := range weights {
		for i, j := range r.Perm(c.Block) {
			s := uint8(1)
			if i >= n {
				s = pick[uint8](r, 0, 2)
			}
			y[list[block*c.Block+j]] = s
		}
	}
	return y
}

func someWeights(r *rand.Rand, c api.Steps) []int {
	l := make([]int, c.Users-1)
	for i := range l {
		l[i] = pick(r, 0, c.Block, r.Intn(c.Block+1))
	}
	return l
}

// namedFor returns the users who are named for some weights.
func namedFor(c api.Steps, weights []int) []int {
	var l []int
	for u := range c.Users {
		switch {
		case u == 0 && weights[0] > 0:
			l = append(l, u)
		case u == c.Users-1 && weights[u-1] < c.Block:
			l = append(l, u)
		case u > 0 && u < c.Users-1 && weights[u-1] <= thresholdOf(c, weights[u-1]+weights[u]):
			l = append(l, u)
		}
	}
	return l
}

// weightsOf returns the weights of a copy.
func weightsOf(c api.Steps, y []uint8) []int {
	list := columnsOf(c)
	l := make([]int, c.Users-1)
	for block := range l {
		for i := range c.Block {
			if y[list[block*c.Block+i]] == 1 {
				l[block]++
			}
		}
	}
	return l
}

func scoreWordOf(c api.Scores, u int) []uint8 {
	k := cipher.Derive(c.Key, 70, uint64(u))
	var w []uint8
	for i, a := range c.Biases {
		if cipher.Number(k, uint64(i), uint64(c.Base)) < uint64(a) {
			w = append(w, 1)
		} else {
			w = append(w, 0)
		}
	}
	return w
}

func scoreOf(c api.Scores, w, y []uint8) int {
	n := 0
	for i, a := range c.Biases {
		switch [2]uint8{y[i], w[i]} {
		case [2]uint8{1, 1}:
			n += c.Base - a
		case [2]uint8{1, 0}:
			n -= a
		case [2]uint8{0, 0}:
			n += a
		case [2]uint8{0, 1}:
			n -= c.Base - a
		}
	}
	return n
}

// scoreRange returns the least and the greatest score that a word has for a copy.
func scoreRange(c api.Scores, y []uint8) (least, greatest int) {
	for i, a := range c.Biases {
		switch y[i] {
		case 0:
			least, greatest = least-(c.Base-a), greatest+a
		case 1:
			least, greatest = least-a, greatest+c.Base-a
		}
	}
	return least, greatest
}

// chanceOf counts in how many readable places a random word differs from the copy: each of them takes Base off the greatest score.
func chanceOf(c api.Scores, y []uint8, z int) *big.Rat {
	differ := []*big.Rat{big.NewRat(1, 1)}
	for i, a := range c.Biases {
		if y[i] == 2 {
			continue
		}
		chance := big.NewRat(int64(a), int64(c.Base))
		if y[i] == 1 {
			chance.Sub(big.NewRat(1, 1), chance)
		}
		next := make([]*big.Rat, len(differ)+1)
		for n := range next {
			next[n] = new(big.Rat)
		}
		for n, x := range differ {
			more := new(big.Rat).Mul(x, chance)
			next[n+1].Add(next[n+1], more)
			next[n].Add(next[n], new(big.Rat).Sub(x, more))
		}
		differ = next
	}
	_, greatest := scoreRange(c, y)
	sum := new(big.Rat)
	for n, x := range differ {
		if greatest-n*c.Base >= z {
			sum.Add(sum, x)
		}
	}
	return sum
}

// boundOf tries all numbers, from the least score on.
func boundOf(c api.Scores, y []uint8, limit api.Fraction) int {
	z, _ := scoreRange(c, y)
	for chanceOf(c, y, z).Cmp(toRat(limit)) > 0 {
		z++
	}
	return z
}

// levelCodes returns the code of the groups, and those of the members.
func levelCodes(c api.Levels) (groups api.Steps, members []api.Steps) {
	groups = api.Steps{Users: c.Groups, Block: c.Block, Limit: c.Limit, Key: cipher.Derive(c.Key, 71, 0)}
	for g := range c.Groups {
		members = append(members, api.Steps{Users: c.Members, Block: c.Block, Limit: c.Limit, Key: cipher.Derive(c.Key, 71, uint64(g)+1)})
	}
	return groups, members
}

func accusedFor(c api.Levels, y []uint8) []api.Accused {
	groups, members := levelCodes(c)
	head, rest := y[:(c.Groups-1)*c.Block], y[(c.Groups-1)*c.Block:]
	var l []api.Accused
	for _, g := range namedFor(groups, weightsOf(groups, head)) {
		found := namedFor(members[g], weightsOf(members[g], rest))
		for _, m := range found {
			l = append(l, api.Accused{Group: g, Member: m})
		}
		if len(found) == 0 {
			l = append(l, api.Accused{Group: g, Member: -1})
		}
	}
	return l
}
