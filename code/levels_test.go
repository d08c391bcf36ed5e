package code_test

import (
	"math/rand"
	"slices"
	"testing"

	"headend/api"
	"headend/code"
)

func TestCheckLevels(t *testing.T) { // P7.2, R5, R6
	for _, limit := range limits() {
		for _, groups := range []int{2, 16} {
			for _, members := range []int{2, 16} {
				for _, block := range []int{1, 64} {
					if e := code.CheckLevels(api.Levels{Groups: groups, Members: members, Block: block, Limit: limit}); e != api.OK {
						t.Error(groups, members, block, limit, e)
					}
				}
			}
		}
	}
	for _, c := range wrongLevels() {
		if e := code.CheckLevels(c); e != api.ErrCode {
			t.Error(c, e)
		}
	}
}

func TestWrongLevelsComeFirst(t *testing.T) { // P7.2, R1, R2
	for _, c := range wrongLevels() {
		for _, x := range [][2]int{{0, 0}, {-1, 0}, {0, -1}, {1 << 62, 1 << 62}} {
			if w, e := code.LevelWord(c, x[0], x[1]); e != api.ErrCode || len(w) != 0 {
				t.Error("LevelWord", c, x, w, e)
			}
		}
		for _, y := range [][]uint8{nil, {0}, {3}, make([]uint8, 8)} {
			if l, e := code.TraceLevels(c, y); e != api.ErrCode || len(l) != 0 {
				t.Error("TraceLevels", c, y, l, e)
			}
		}
	}
}

// largeLevels returns the largest code of two levels.
func largeLevels(r *rand.Rand) api.Levels {
	return api.Levels{Groups: 16, Members: 16, Block: 64, Key: randomKey(r), Limit: part(1, 1000000)}
}

func TestLevelWord(t *testing.T) { // P7.5
	r := rand.New(rand.NewSource(18))
	for i := range 100 {
		c := someLevels(r)
		if i == 0 {
			c = largeLevels(r)
		}
		groups, members := levelCodes(c)
		for g := range c.Groups {
			for m := range c.Members {
				want := slices.Concat(stepWordOf(groups, g), stepWordOf(members[g], m))
				if w, e := code.LevelWord(c, g, m); e != api.OK || !slices.Equal(w, want) {
					t.Fatal(c, g, m, w, e)
				}
			}
		}
		for _, far := range append(wild(), -1, 16) {
			for _, x := range [][2]int{{far, 0}, {0, far}, {far, far}, {c.Groups, 0}, {0, c.Members}} {
				if w, e := code.LevelWord(c, x[0], x[1]); e != api.ErrArg || len(w) != 0 {
					t.Error(c, x, w, e)
				}
			}
		}
	}
}

// someLevelCopy returns a copy with such weights as members and groups have, or with others.
func someLevelCopy(r *rand.Rand, c api.Levels) []uint8 {
	groups, members := levelCodes(c)
	m := members[r.Intn(c.Groups)]
	return pick(r,
		someList(r, (c.Groups+c.Members-2)*c.Block, 3),
		slices.Concat(withWeights(r, groups, someWeights(r, groups)), withWeights(r, m, someWeights(r, m))),
		slices.Concat(stepWordOf(groups, r.Intn(c.Groups)), withWeights(r, m, someWeights(r, m))),
		slices.Concat(withWeights(r, groups, someWeights(r, groups)), stepWordOf(m, r.Intn(c.Members))),
	)
}

func TestTraceLevels(t *testing.T) { // P7.5
	r := rand.New(rand.NewSource(19))
	sizes, alone := map[int]int{}, 0
	for i := range 2000 {
		c := someLevels(r)
		if i < 3 {
			c = largeLevels(r)
		}
		y := someLevelCopy(r, c)
		want := accusedFor(c, y)
		if l, e := code.TraceLevels(c, y); e != api.OK || !slices.Equal(l, want) {
			t.Fatal(c, y, l, e, want)
		}
		sizes[min(len(want), 4)]++
		if slices.ContainsFunc(want, func(a api.Accused) bool { return a.Member == -1 }) {
			alone++
		}
	}
	for n := range 5 {
		if sizes[n] < 30 {
			t.Error("too few with", n, "entries:", sizes)
		}
	}
	if alone < 30 {
		t.Error("too few groups without members:", alone)
	}
}

func TestTraceLevelsErrors(t *testing.T) { // P7.5
	r := rand.New(rand.NewSource(20))
	for range 50 {
		c := someLevels(r)
		places := (c.Groups + c.Members - 2) * c.Block
		for _, y := range append(wrongCopies(places), make([]uint8, (c.Groups-1)*c.Block), make([]uint8, places+c.Block)) {
			if l, e := code.TraceLevels(c, y); e != api.ErrWord || len(l) != 0 {
				t.Error(c, y, l, e)
			}
		}
	}
}
