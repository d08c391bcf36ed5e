package trace_test

import (
	"math/rand"
	"slices"
	"testing"

	"headend/api"
	"headend/trace"
)

func TestNewHunt(t *testing.T) { // P8.1
	for users := 1; users <= 64; users++ {
		h, e := trace.NewHunt(users)
		if e != api.OK || !isSameHunt(h, huntOf(make([]int, users), 0)) || trace.CheckHunt(h) != api.OK {
			t.Error(users, h, e)
		}
	}
	for _, users := range append(wild(), -1, 0, 65, 66) {
		if h, e := trace.NewHunt(users); e != api.ErrArg || !isSameHunt(h, api.Hunt{}) {
			t.Error(users, h, e)
		}
	}
}

func TestCheckHunt(t *testing.T) { // P8.1, R6
	r := rand.New(rand.NewSource(1))
	for range 1000 {
		if h := someHunt(r); trace.CheckHunt(h) != api.OK {
			t.Fatal(h)
		}
	}
	for _, variants := range [][]int{{0}, {-1}, {1, 2}, {2, 1}, {-1, -1, -1}, slices.Repeat([]int{-1}, 64), {2, 1, 4, 3, 0, -1}} {
		for _, rounds := range []int{0, 1, api.MaxQueries} {
			if h := huntOf(variants, rounds); trace.CheckHunt(h) != api.OK {
				t.Error(h)
			}
		}
	}
	many := make([]int, 64)
	for u := range many {
		many[u] = 64 - u
	}
	if h := huntOf(many, 0); len(h.Pairs) != 32 || trace.CheckHunt(h) != api.OK {
		t.Error(h)
	}
}

func TestWrongHunts(t *testing.T) { // P8.1, P8.2, R1, R2, R5
	r := rand.New(rand.NewSource(2))
	for range 60 {
		for _, h := range wrongHunts(r, someHunt(r)) {
			if e := trace.CheckHunt(h); e != api.ErrBad {
				t.Fatalf("%+v: %v", h, e)
			}
			if l, e := trace.Variants(h); e != api.ErrBad || len(l) != 0 {
				t.Fatalf("%+v: %v, %v", h, l, e)
			}
			for _, v := range []int{0, 1, -1, 200, pick(r, wild()...)} {
				if x, e := trace.Hear(h, v); e != api.ErrBad || !isSameHunt(x, api.Hunt{}) {
					t.Fatalf("%+v, %d: %v, %v", h, v, x, e)
				}
			}
		}
	}
}

func TestTooManyUsers(t *testing.T) { // P8.1
	for _, v := range []int{-1, 0} {
		for _, users := range []int{65, 66, 1000} {
			h := huntOf(slices.Repeat([]int{v}, users), 0)
			if e := trace.CheckHunt(h); e != api.ErrBad {
				t.Error(v, users, e)
			}
			h = huntOf(append(slices.Repeat([]int{v}, users-2), 1, 2), 0)
			if e := trace.CheckHunt(h); e != api.ErrBad {
				t.Error(v, users, e)
			}
		}
	}
}

// isHunt follows the definition, user by user; all entries are from -1 to 3.
func isHunt(h api.Hunt) bool {
	if h.Users < 1 || h.Users > 64 || h.Rounds < 0 || h.Rounds > 100000 {
		return false
	}
	for i, l := range listsOf(&h) {
		for j, u := range *l {
			if u < 0 || u >= h.Users || j > 0 && (*l)[j-1] >= u {
				return false
			}
		}
		if i >= 2 && len(*l) == 0 {
			return false
		}
	}
	for u := range h.Users {
		in := 0
		for _, l := range listsOf(&h) {
			if slices.Contains(*l, u) {
				in++
			}
		}
		if in != 1 {
			return false
		}
	}
	return true
}

func TestSmallHunts(t *testing.T) { // P8.1, R6
	r := rand.New(rand.NewSource(3))
	valid := 0
	for range 300000 {
		h := api.Hunt{Users: r.Intn(5), Pairs: make([]api.Pair, r.Intn(2)), Rounds: r.Intn(5)}
		for _, l := range listsOf(&h) {
			for range r.Intn(3) {
				*l = append(*l, pick(r, -1, 0, 0, 1, 1, 2, 2, 3, 3))
			}
		}
		want := isHunt(h)
		if e := trace.CheckHunt(h); (e == api.OK) != want || (e == api.ErrBad) == want {
			t.Fatalf("%+v: %v", h, e)
		}
		if want {
			valid++
		}
	}
	if valid < 2000 {
		t.Error("too few that are valid:", valid)
	}
}

func TestVariants(t *testing.T) { // P8.1
	r := rand.New(rand.NewSource(4))
	for range 2000 {
		want := someVariants(r)
		if l, e := trace.Variants(huntOf(want, 0)); e != api.OK || !slices.Equal(l, want) {
			t.Fatal(want, l, e)
		}
	}
}

func TestHear(t *testing.T) { // P8.2
	r := rand.New(rand.NewSource(5))
	heard := 0
	for range 1500 {
		before, rounds := someVariants(r), r.Intn(api.MaxQueries)
		h := huntOf(before, rounds)
		for v := -3; v <= 2*len(h.Pairs)+3; v++ {
			x, e := trace.Hear(h, v)
			if v == -1 || !slices.Contains(before, v) {
				if e != api.ErrVariant || !isSameHunt(x, api.Hunt{}) {
					t.Fatal(before, v, x, e)
				}
				continue
			}
			if want := huntOf(heardOf(before, v), rounds+1); e != api.OK || !isSameHunt(x, want) {
				t.Fatalf("%v, %d: %+v instead of %+v, %v", before, v, x, want, e)
			}
			heard++
		}
	}
	if heard < 5000 {
		t.Error("too few variants:", heard)
	}
}

func TestNoSuchVariant(t *testing.T) { // P8.2, R1, R5
	r := rand.New(rand.NewSource(6))
	for range 200 {
		h := someHunt(r)
		h.Rounds = pick(r, 0, api.MaxQueries)
		for _, v := range append(wild(), -1, 2*len(h.Pairs)+1, 2*len(h.Pairs)+2, 65, 129) {
			if x, e := trace.Hear(h, v); e != api.ErrVariant || !isSameHunt(x, api.Hunt{}) {
				t.Fatalf("%+v, %d: %v, %v", h, v, x, e)
			}
		}
	}
}

func TestNoMoreRounds(t *testing.T) { // P8.2
	for _, variants := range [][]int{{0}, {0, 0, 0}, {1, 2}, {1, 1, 2, 0, -1}} {
		for v := range slices.Max(variants) + 1 {
			if !slices.Contains(variants, v) {
				continue
			}
			if h, e := trace.Hear(huntOf(variants, api.MaxQueries), v); e != api.ErrFull || !isSameHunt(h, api.Hunt{}) {
				t.Error(variants, v, h, e)
			}
			h, e := trace.Hear(huntOf(variants, api.MaxQueries-1), v)
			if e != api.OK || h.Rounds != api.MaxQueries || trace.CheckHunt(h) != api.OK {
				t.Error(variants, v, h, e)
			}
		}
	}
}

func TestRounds(t *testing.T) { // P8.2
	for users := 1; users <= 64; users++ {
		c := 0
		for power := 1; power < users; power *= 2 {
			c++
		}
		for pirates := range users + 1 {
			if n, e := trace.Rounds(users, pirates); e != api.OK || n != pirates*(1+c) {
				t.Error(users, pirates, n, e)
			}
		}
		for _, pirates := range append(wild(), -1, users+1, 65) {
			if n, e := trace.Rounds(users, pirates); e != api.ErrArg || n != 0 {
				t.Error(users, pirates, n, e)
			}
		}
	}
	for _, users := range append(wild(), -1, 0, 65) {
		for _, pirates := range []int{-1, 0, 1, 64, users} {
			if n, e := trace.Rounds(users, pirates); e != api.ErrArg || n != 0 {
				t.Error(users, pirates, n, e)
			}
		}
	}
}

// game is a hunt among users of whom some are pirates.
type game struct {
	t       *testing.T
	pirates []int
	rounds  int
}

func newGame(t *testing.T, users int, pirates []int) game {
	t.Helper()
	return game{t, pirates, must[int](t)(trace.Rounds(users, len(pirates)))}
}

// check fails unless a hunt is as P8.6 promises.
func (g game) check(h api.Hunt) {
	g.t.Helper()
	variants := must[[]int](g.t)(trace.Variants(h))
	for _, u := range h.Named {
		if !slices.Contains(g.pirates, u) {
			g.t.Fatalf("an innocent user is named: %+v, pirates %v", h, g.pirates)
		}
	}
	for _, p := range h.Pairs {
		isPirate := func(u int) bool { return slices.Contains(g.pirates, u) }
		if !slices.ContainsFunc(p.Left, isPirate) && !slices.ContainsFunc(p.Right, isPirate) {
			g.t.Fatalf("a pair without a pirate: %+v, pirates %v", h, g.pirates)
		}
	}
	free := len(g.pirates) - len(h.Named)
	if len(h.Pairs) > free || slices.Max(variants) > 2*len(g.pirates) {
		g.t.Fatalf("too many pairs: %+v, pirates %v", h, g.pirates)
	}
	if free > 0 && h.Rounds >= g.rounds {
		g.t.Fatalf("too many rounds: %+v, pirates %v", h, g.pirates)
	}
}

// heard returns the variants that may be heard: those of the pirates who are not named.
func (g game) heard(h api.Hunt) []int {
	g.t.Helper()
	variants := must[[]int](g.t)(trace.Variants(h))
	var l []int
	for _, u := range g.pirates {
		if v := variants[u]; v != -1 && !slices.Contains(l, v) {
			l = append(l, v)
		}
	}
	slices.Sort(l)
	return l
}

// state is what a game goes on from.
type state struct {
	variants [6]int
	rounds   int
}

// play goes through all games from a hunt on.
func (g game) play(h api.Hunt, seen map[state]bool) {
	g.t.Helper()
	x := state{rounds: h.Rounds}
	copy(x.variants[:], must[[]int](g.t)(trace.Variants(h)))
	if seen[x] {
		return
	}
	seen[x] = true
	g.check(h)
	for _, v := range g.heard(h) {
		g.play(hear(g.t, h, v), seen)
	}
}

func TestAllSmallGames(t *testing.T) { // P8.6
	for users := 1; users <= 6; users++ {
		for set := range 1 << users {
			var pirates []int
			for u := range users {
				if set>>u&1 == 1 {
					pirates = append(pirates, u)
				}
			}
			newGame(t, users, pirates).play(must[api.Hunt](t)(trace.NewHunt(users)), map[state]bool{})
		}
	}
}

func TestLongGames(t *testing.T) { // P8.6
	r := rand.New(rand.NewSource(7))
	for range 300 {
		users := pick(r, 64, 63, 33, 32, 1+r.Intn(64))
		pirates := r.Perm(users)[:pick(r, 1, users, 1+r.Intn(users), 1+r.Intn(min(users, 5)))]
		g := newGame(t, users, pirates)
		h := must[api.Hunt](t)(trace.NewHunt(users))
		// The pirates let hear the rest, the newest pair, the oldest one, or any of theirs.
		way := r.Intn(4)
		for len(h.Named) < len(pirates) {
			l := g.heard(h)
			v := []int{l[0], l[len(l)-1], l[min(1, len(l)-1)], pick(r, l...)}[way]
			h = hear(t, h, v)
			g.check(h)
		}
		slices.Sort(pirates)
		if !slices.Equal(h.Named, pirates) || h.Rounds > g.rounds || len(h.Pairs) != 0 {
			t.Fatalf("%+v, pirates %v", h, pirates)
		}
	}
}
