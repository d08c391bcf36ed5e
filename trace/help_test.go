package trace_test

import (
	"math"
	"math/rand"
	"slices"
	"testing"

	"headend/api"
	"headend/cipher"
	"headend/cover"
	"headend/trace"
)

// must returns the result of a call that has no error.
func must[T any](t *testing.T) func(result T, e api.Errno) T {
	t.Helper()
	return func(result T, e api.Errno) T {
		t.Helper()
		if e != api.OK {
			t.Fatal("unexpected error:", e)
		}
		return result
	}
}

func pick[T any](r *rand.Rand, l ...T) T { return l[r.Intn(len(l))] }

// wild returns numbers that are outside of all ranges, except for those of the variants.
func wild() []int {
	return []int{
		-2, -3, -64, -1000, math.MinInt, math.MinInt + 1, math.MinInt32, -1 << 33, -1 << 62,
		100001, 1 << 20, math.MaxInt32, 1 << 32, 1<<32 + 1, 1<<32 + 2, 1 << 40, 1 << 62, 1<<63 - 16, math.MaxInt - 1, math.MaxInt,
	}
}

func randomKey(r *rand.Rand) api.Key {
	var k api.Key
	r.Read(k[:])
	return k
}

// downKey is the key of the fixed values: its bytes are 15 down to 0.
func downKey() api.Key {
	var k api.Key
	for i := range k {
		k[i] = byte(15 - i)
	}
	return k
}

// Hunts.

// huntOf returns the hunt in which each user gets the variant of the list.
func huntOf(variants []int, rounds int) api.Hunt {
	h := api.Hunt{Users: len(variants), Rounds: rounds}
	for u, v := range variants {
		switch {
		case v == -1:
			h.Named = append(h.Named, u)
			continue
		case v == 0:
			h.Rest = append(h.Rest, u)
			continue
		}
		for len(h.Pairs) < (v+1)/2 {
			h.Pairs = append(h.Pairs, api.Pair{})
		}
		if p := &h.Pairs[(v-1)/2]; v%2 == 1 {
			p.Left = append(p.Left, u)
		} else {
			p.Right = append(p.Right, u)
		}
	}
	return h
}

// someVariants returns variants for some users, with which each side of each pair has a user.
func someVariants(r *rand.Rand) []int {
	l := make([]int, pick(r, 1, 2, 3, 64, 1+r.Intn(64)))
	pairs := pick(r, 0, len(l)/2, r.Intn(len(l)/2+1))
	for i, u := range r.Perm(len(l)) {
		switch {
		case i < 2*pairs:
			l[u] = i + 1
		case r.Intn(3) == 0:
			l[u] = -r.Intn(2)
		default:
			l[u] = r.Intn(2*pairs+2) - 1
		}
	}
	return l
}

func someHunt(r *rand.Rand) api.Hunt {
	return huntOf(someVariants(r), pick(r, 0, 1, r.Intn(100), api.MaxQueries-1))
}

// cloneHunt returns a hunt that shares no memory with a hunt.
func cloneHunt(h api.Hunt) api.Hunt {
	pairs := h.Pairs
	h.Pairs, h.Rest, h.Named = nil, slices.Clone(h.Rest), slices.Clone(h.Named)
	for _, p := range pairs {
		h.Pairs = append(h.Pairs, api.Pair{Left: slices.Clone(p.Left), Right: slices.Clone(p.Right)})
	}
	return h
}

func isSameHunt(a, b api.Hunt) bool {
	isSamePair := func(p, q api.Pair) bool {
		return slices.Equal(p.Left, q.Left) && slices.Equal(p.Right, q.Right)
	}
	return a.Users == b.Users && a.Rounds == b.Rounds && slices.Equal(a.Rest, b.Rest) && slices.Equal(a.Named, b.Named) &&
		slices.EqualFunc(a.Pairs, b.Pairs, isSamePair)
}

// listsOf returns the lists of users of a hunt, as pointers.
func listsOf(h *api.Hunt) []*[]int {
	l := []*[]int{&h.Rest, &h.Named}
	for i := range h.Pairs {
		l = append(l, &h.Pairs[i].Left, &h.Pairs[i].Right)
	}
	return l
}

// wrongHunts returns hunts that are not valid, made out of one that is.
func wrongHunts(r *rand.Rand, h api.Hunt) []api.Hunt {
	l := []api.Hunt{{}}
	add := func(change func(x *api.Hunt)) {
		x := cloneHunt(h)
		change(&x)
		l = append(l, x)
	}
	for _, n := range append(wild(), -1, 0, 65, h.Users-1, h.Users+1) {
		add(func(x *api.Hunt) { x.Users = n })
	}
	for _, n := range append(wild(), -1) {
		add(func(x *api.Hunt) { x.Rounds = n })
	}
	for i := range listsOf(&h) {
		for _, n := range append(wild(), -1, h.Users, h.Users+1, r.Intn(h.Users), 0, h.Users-1) {
			add(func(x *api.Hunt) { *listsOf(x)[i] = append(*listsOf(x)[i], n) })
			add(func(x *api.Hunt) { *listsOf(x)[i] = slices.Insert(*listsOf(x)[i], 0, n) })
			if len(*listsOf(&h)[i]) > 0 {
				add(func(x *api.Hunt) {
					if u := *listsOf(x)[i]; u[0] != n {
						u[0] = n
					} else {
						u[0]++
					}
				})
			}
		}
		if len(*listsOf(&h)[i]) > 0 {
			add(func(x *api.Hunt) { *listsOf(x)[i] = (*listsOf(x)[i])[1:] })
		}
		if len(*listsOf(&h)[i]) > 1 {
			add(func(x *api.Hunt) { slices.Reverse(*listsOf(x)[i]) })
		}
	}
	add(func(x *api.Hunt) { x.Pairs = append(x.Pairs, api.Pair{}) })
	add(func(x *api.Hunt) { x.Pairs = append(x.Pairs, api.Pair{Left: x.Rest}); x.Rest = nil })
	add(func(x *api.Hunt) { x.Pairs = slices.Insert(x.Pairs, 0, api.Pair{Right: x.Named}); x.Named = nil })
	add(func(x *api.Hunt) { x.Pairs = append(x.Pairs, make([]api.Pair, 1000)...) })
	return l
}

// heardOf returns the variants after one was heard, user by user.
func heardOf(before []int, v int) []int {
	var heard []int
	for u, x := range before {
		if x == v {
			heard = append(heard, u)
		}
	}
	left, other := slices.Max(before)+1, -2
	if v > 0 {
		left = v - (v+1)%2
		other = 2*left + 1 - v
	}
	after := slices.Clone(before)
	for u, x := range before {
		switch {
		case x == v && len(heard) == 1:
			after[u] = -1
		case x == v && 2*slices.Index(heard, u) < len(heard):
			after[u] = left
		case x == v:
			after[u] = left + 1
		case x == other:
			after[u] = 0
		case len(heard) == 1 && x > left+1:
			after[u] = x - 2
		}
	}
	return after
}

// Schemes and subsets.

func kinds() []uint8 {
	return []uint8{api.SchemeSubtree, api.SchemeDifference, api.SchemeLayered}
}

func scheme(kind uint8, depth int) api.Scheme { return api.Scheme{Kind: kind, Depth: depth} }

// schemes returns all schemes that are valid.
func schemes() []api.Scheme {
	var l []api.Scheme
	for _, kind := range kinds() {
		for depth := range api.MaxDepth + 1 {
			l = append(l, scheme(kind, depth))
		}
	}
	return l
}

func wrongSchemes() []api.Scheme {
	l := []api.Scheme{
		{},
		{Kind: api.SchemePolynomial, Depth: 3},
		{Kind: api.SchemePolynomial, Depth: 3, Degree: 2, Group: api.Group{P: 23, Q: 11, G: 2}},
		{Kind: 5, Depth: 3},
		{Kind: 255, Depth: 3},
		{Kind: 2, Depth: 3, Degree: 1},
		{Kind: 3, Depth: 3, Degree: math.MinInt},
		{Kind: 1, Depth: 3, Group: api.Group{P: 1}},
		{Kind: 3, Depth: 3, Group: api.Group{G: 1}},
	}
	for _, n := range append(wild(), -1, 7, 64) {
		l = append(l, scheme(pick(rand.New(rand.NewSource(int64(n))), kinds()...), n))
	}
	return l
}

// someScheme returns a scheme, most often one of a small depth.
func someScheme(r *rand.Rand) api.Scheme {
	return scheme(pick(r, kinds()...), pick(r, 0, 1, 2, 2, 3, 3, 3, 4, 4, 5, 6))
}

func below(w, v int) bool { return w == v || w > v && below(w/2, v) }

func isMember(s api.Scheme, u int, x api.Subset) bool {
	leaf := 1<<s.Depth + u
	return below(leaf, x.Node) && (x.Minus == 0 || !below(leaf, x.Minus))
}

func membersOf(s api.Scheme, l ...api.Subset) []int {
	var all []int
	for u := range 1 << s.Depth {
		for _, x := range l {
			if isMember(s, u, x) {
				all = append(all, u)
			}
		}
	}
	return all
}

func isSubset(s api.Scheme, x api.Subset) bool {
	_, e := cover.Members(s, x)
	return e == api.OK
}

// someSubset returns a subset of a scheme.
func someSubset(r *rand.Rand, s api.Scheme) api.Subset {
	for {
		x := api.Subset{Node: 1 + r.Intn(2<<s.Depth-1)}
		if s.Kind != api.SchemeSubtree {
			x.Minus = r.Intn(2 << s.Depth)
		}
		if isSubset(s, x) {
			return x
		}
	}
}

func someSubsets(r *rand.Rand, s api.Scheme, n int) []api.Subset {
	var l []api.Subset
	for range n {
		l = append(l, someSubset(r, s))
	}
	return l
}

// wrongSubsets returns values that are no subsets of a scheme.
func wrongSubsets(s api.Scheme) []api.Subset {
	var l []api.Subset
	for _, n := range append(wild(), -1, 0, 1, 2, 3, 2<<s.Depth-1, 2<<s.Depth, 2<<s.Depth+1) {
		for _, m := range append(wild(), -1, 0, 1, 2, 2<<s.Depth) {
			if x := (api.Subset{Node: n, Minus: m}); !isSubset(s, x) {
				l = append(l, x)
			}
		}
	}
	return l
}

// someReceivers returns a list of receivers, each of which is in it with the chance 1 of odds.
func someReceivers(r *rand.Rand, s api.Scheme, odds int) []int {
	var l []int
	for u := range 1 << s.Depth {
		if r.Intn(odds) == 0 {
			l = append(l, u)
		}
	}
	return l
}

// someParts returns a partition: a cover, of which some subsets were split, and some taken away, in any order.
func someParts(t *testing.T, r *rand.Rand, s api.Scheme) []api.Subset {
	t.Helper()
	l := must[[]api.Subset](t)(cover.Cover(s, someReceivers(r, s, pick(r, 2, 5, 100))))
	for range pick(r, 0, 0, r.Intn(1<<s.Depth), 1<<s.Depth) {
		if len(l) == 0 {
			break
		}
		i := r.Intn(len(l))
		if two, e := cover.Split(s, l[i]); e == api.OK {
			l = slices.Concat(l[:i], two, l[i+1:])
		}
	}
	if len(l) > 0 && r.Intn(4) == 0 {
		l = slices.Delete(l, 0, r.Intn(len(l)))
	}
	if r.Intn(2) == 0 {
		r.Shuffle(len(l), func(i, j int) { l[i], l[j] = l[j], l[i] })
	}
	return l
}

// isPartition follows the definition, pair by pair.
func isPartition(s api.Scheme, l []api.Subset) bool {
	for i, x := range l {
		for _, y := range l[:i] {
			for u := range 1 << s.Depth {
				if isMember(s, u, x) && isMember(s, u, y) {
					return false
				}
			}
		}
	}
	return true
}

// Boxes.

func modes() []uint8 { return []uint8{api.BoxFirst, api.BoxAll, api.BoxAny, api.BoxOdd} }

func someBox(r *rand.Rand) api.Box {
	s := someScheme(r)
	b := api.Box{Scheme: s, Mode: pick(r, modes()...), Seed: randomKey(r)}
	b.Coalition = someReceivers(r, s, pick(r, 1, 2, 3, 10, 30))
	b.Noise, b.Lives = pick(r, 0, 0, 1, 2, 3, 8), pick(r, 0, 0, 0, 1, 3, 8)
	b.Asked = pick(r, 0, r.Intn(10), r.Intn(80000))
	b.Mixed = pick(r, 0, 0, 0, r.Intn(b.Asked+1))
	return b
}

// wrongBoxes returns boxes whose schemes are valid, but which are not.
func wrongBoxes() []api.Box {
	good := api.Box{Scheme: scheme(api.SchemeDifference, 3), Coalition: []int{1, 4}, Mode: api.BoxAll, Noise: 2, Lives: 1, Asked: 7, Mixed: 3}
	var l []api.Box
	add := func(change func(b *api.Box)) {
		b := good
		b.Coalition = slices.Clone(good.Coalition)
		change(&b)
		l = append(l, b)
	}
	for _, mode := range []uint8{0, 5, 6, 128, 255} {
		add(func(b *api.Box) { b.Mode = mode })
	}
	for _, n := range append(wild(), -1, 9, 10) {
		add(func(b *api.Box) { b.Noise = n })
		add(func(b *api.Box) { b.Lives = n })
	}
	for _, n := range append(wild(), -1) {
		add(func(b *api.Box) { b.Asked = n })
	}
	for _, n := range append(wild(), -1, 8, 9) {
		add(func(b *api.Box) { b.Mixed = n })
		add(func(b *api.Box) { b.Coalition = []int{n} })
		add(func(b *api.Box) { b.Coalition = []int{1, n} })
	}
	for _, list := range [][]int{{4, 1}, {1, 1}, {1, 4, 4}, {0, 2, 1}, {0, 1, 2, 3, 4, 5, 6, 7, 8}, make([]int, 1000)} {
		add(func(b *api.Box) { b.Coalition = list })
	}
	return l
}

func isSameBox(a, b api.Box) bool {
	return a.Scheme == b.Scheme && slices.Equal(a.Coalition, b.Coalition) && a.Mode == b.Mode && a.Noise == b.Noise &&
		a.Lives == b.Lives && a.Seed == b.Seed && a.Asked == b.Asked && a.Mixed == b.Mixed
}

func isSameFinding(a, b api.Finding) bool {
	return slices.Equal(a.Named, b.Named) && slices.Equal(a.Subsets, b.Subsets) && a.Asked == b.Asked && a.End == b.End
}

// askOf follows the definition of what a box does.
func askOf(b api.Box, l []api.Subset, fakes int) (api.Box, bool) {
	var open []int
	wrong, right := 0, 0
	for i, x := range l {
		if !slices.ContainsFunc(b.Coalition, func(u int) bool { return isMember(b.Scheme, u, x) }) {
			continue
		}
		open = append(open, i)
		if i < fakes {
			wrong++
		} else {
			right++
		}
	}
	n, span := b.Asked, b.Noise+1
	b.Asked++
	if wrong > 0 && right > 0 {
		b.Mixed++
	}
	switch {
	case right == 0, b.Lives != 0 && b.Mixed > b.Lives, int(cipher.Number(b.Seed, uint64(n/span), uint64(span))) != n%span:
		return b, false
	case wrong == 0:
		return b, true
	}
	switch b.Mode {
	case 1:
		return b, open[0] >= fakes
	case 2:
		return b, false
	case 3:
		return b, true
	}
	return b, cipher.Number(b.Seed, uint64(1<<32+64*wrong+right), 2) == 1
}

// traceOf follows the definition of tracing.
func traceOf(b api.Box, l []api.Subset, noise int) (api.Finding, api.Box) {
	f := api.Finding{Subsets: slices.Clone(l)}
	seen := func(fakes int) bool {
		for i := 0; i <= 2*noise; i++ {
			plays := false
			f.Asked++
			if b, plays = askOf(b, f.Subsets, fakes); plays {
				return true
			}
		}
		return false
	}
	for f.End == 0 {
		if !seen(0) {
			f.End = 1
			break
		}
		low, high := 0, len(f.Subsets)
		for high-low > 1 {
			if middle := (low + high) / 2; seen(middle) {
				low = middle
			} else {
				high = middle
			}
		}
		if !seen(0) {
			f.End = 2
			break
		}
		two, e := cover.Split(b.Scheme, f.Subsets[low])
		if e == api.ErrNone {
			f.Named = append(f.Named, membersOf(b.Scheme, f.Subsets[low])...)
		}
		f.Subsets = slices.Concat(f.Subsets[:low], two, f.Subsets[low+1:])
	}
	slices.Sort(f.Named)
	return f, b
}

// boundOf follows the definition of the bound.
func boundOf(s api.Scheme, noise int) int {
	leaves := 1
	for range s.Depth {
		leaves *= 2
	}
	return (2*leaves + 1) * (s.Depth + 2) * (2*noise + 1)
}

// hear returns the hunt after hearing a variant, which must be given.
func hear(t *testing.T, h api.Hunt, variant int) api.Hunt {
	t.Helper()
	return must[api.Hunt](t)(trace.Hear(h, variant))
}
