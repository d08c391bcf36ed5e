package cover_test

import (
	"slices"
	"testing"

	"headend/api"
	"headend/cover"
)

// subtreesOf follows the definition of a cover by subtrees.
func subtreesOf(depth int, hot func(int) bool) []api.Subset {
	var l []api.Subset
	for v := 1; v < 2<<depth; v++ {
		if !hot(v) && (v == 1 || hot(v/2)) {
			l = append(l, api.Subset{Node: v})
		}
	}
	return l
}

// differencesOf follows the definition of a cover by differences.
func differencesOf(depth int, hot func(int) bool) []api.Subset {
	if !hot(1) {
		return []api.Subset{{Node: 1}}
	}
	var l []api.Subset
	for v := 1; v < 2<<depth; v++ {
		if !hot(v) || v > 1 && !hot(v^1) {
			continue
		}
		foot := v
		for foot < 1<<depth && !(hot(2*foot) && hot(2*foot+1)) {
			foot *= 2
			if !hot(foot) {
				foot++
			}
		}
		if foot != v {
			l = append(l, api.Subset{Node: v, Minus: foot})
		}
	}
	return l
}

// coverOf follows the definition of a cover.
func coverOf(s api.Scheme, revoked []int) []api.Subset {
	hot := func(v int) bool {
		return slices.ContainsFunc(revoked, func(u int) bool { return below(1<<s.Depth+u, v) })
	}
	if s.Kind == subtree {
		return subtreesOf(s.Depth, hot)
	}
	var l []api.Subset
	for _, x := range differencesOf(s.Depth, hot) {
		if isSubset(s, x) {
			l = append(l, x)
			continue
		}
		k := firstSpecial(s.Depth, x.Node, x.Minus)
		l = append(l, api.Subset{Node: x.Node, Minus: k}, api.Subset{Node: k, Minus: x.Minus})
	}
	slices.SortFunc(l, func(a, b api.Subset) int { return a.Node - b.Node })
	return l
}

func TestCover(t *testing.T) { // P3.2
	for _, s := range schemes() {
		for _, revoked := range lists(s.Depth) {
			got, e := cover.Cover(s, revoked)
			if want := coverOf(s, revoked); e != api.OK || !slices.Equal(got, want) {
				t.Errorf("%+v, %v: %v, %v, want %v", s, revoked, got, e, want)
			}
		}
	}
}

func TestCoverExamples(t *testing.T) { // P3.2, Examples
	for _, c := range []struct {
		kind    uint8
		depth   int
		revoked []int
		want    []api.Subset
	}{
		{subtree, 3, []int{2, 3}, []api.Subset{{Node: 3}, {Node: 4}}},
		{difference, 3, []int{2, 3}, []api.Subset{{Node: 1, Minus: 5}}},
		{layered, 3, []int{2, 3}, []api.Subset{{Node: 1, Minus: 5}}},
		{subtree, 3, []int{0}, []api.Subset{{Node: 3}, {Node: 5}, {Node: 9}}},
		{difference, 3, []int{0}, []api.Subset{{Node: 1, Minus: 8}}},
		{layered, 3, []int{0}, []api.Subset{{Node: 1, Minus: 8}}},
		{difference, 3, []int{0, 5}, []api.Subset{{Node: 2, Minus: 8}, {Node: 3, Minus: 13}}},
		{layered, 3, []int{0, 5}, []api.Subset{{Node: 2, Minus: 4}, {Node: 3, Minus: 6}, {Node: 4, Minus: 8}, {Node: 6, Minus: 13}}},
		{difference, 3, []int{0, 7}, []api.Subset{{Node: 2, Minus: 8}, {Node: 3, Minus: 15}}},
		{subtree, 3, nil, []api.Subset{{Node: 1}}},
		{difference, 3, nil, []api.Subset{{Node: 1}}},
		{layered, 3, []int{}, []api.Subset{{Node: 1}}},
		{subtree, 3, []int{0, 1, 2, 3, 4, 5, 6, 7}, nil},
		{difference, 3, []int{0, 1, 2, 3, 4, 5, 6, 7}, nil},
		{layered, 3, []int{0, 1, 2, 3, 4, 5, 6, 7}, nil},
		{difference, 6, []int{0}, []api.Subset{{Node: 1, Minus: 64}}},
		{layered, 6, []int{0}, []api.Subset{{Node: 1, Minus: 64}}},
		{difference, 6, []int{0, 32}, []api.Subset{{Node: 2, Minus: 64}, {Node: 3, Minus: 96}}},
		{layered, 6, []int{0, 32}, []api.Subset{{Node: 2, Minus: 8}, {Node: 3, Minus: 12}, {Node: 8, Minus: 64}, {Node: 12, Minus: 96}}},
		{subtree, 0, nil, []api.Subset{{Node: 1}}},
		{difference, 0, nil, []api.Subset{{Node: 1}}},
		{subtree, 0, []int{0}, nil},
		{difference, 0, []int{0}, nil},
		{layered, 0, []int{0}, nil},
		{difference, 1, []int{1}, []api.Subset{{Node: 1, Minus: 3}}},
	} {
		got, e := cover.Cover(scheme(c.kind, c.depth), c.revoked)
		if e != api.OK || !slices.Equal(got, c.want) {
			t.Errorf("kind %d, depth %d, %v: %v, %v, want %v", c.kind, c.depth, c.revoked, got, e, c.want)
		}
	}
}

// wrongLists returns numbers that are no list of receivers.
func wrongLists(depth int) [][]int {
	last := 1<<depth - 1
	ls := [][]int{{last + 1}, {0, last + 1}, {-1}, {-1, 0}, {0, 0}, {last, last}}
	if depth > 0 {
		ls = append(ls, []int{1, 0}, []int{last, 0}, []int{0, 1, 1}, []int{0, 1, 0}, make([]int, 1000))
	}
	if depth > 1 {
		ls = append(ls, []int{3, 1}, []int{0, 2, 1, 3}, []int{0, 1, 3, 2})
	}
	for _, far := range wild() {
		ls = append(ls, []int{far}, []int{0, far}, []int{far, 0})
	}
	return ls
}

func TestCoverOfNoList(t *testing.T) { // P3.2, R2, R5, Examples
	for _, s := range schemes() {
		for _, revoked := range wrongLists(s.Depth) {
			if got, e := cover.Cover(s, revoked); e != api.ErrArg || len(got) > 0 {
				t.Errorf("%+v, %v: %v, %v", s, revoked, got, e)
			}
		}
	}
}

// parts checks that some subsets of a scheme have these receivers as members, each of them once.
func parts(t *testing.T, s api.Scheme, l []api.Subset, want []int) {
	t.Helper()
	var all []int
	for _, x := range l {
		if !isSubset(s, x) {
			t.Errorf("%+v: %v is no subset", s, x)
		}
		all = append(all, must[[]int](t)(cover.Members(s, x))...)
	}
	slices.Sort(all)
	if !slices.Equal(all, want) {
		t.Errorf("%+v, %v: the members are %v, want %v", s, l, all, want)
	}
}

func others(s api.Scheme, revoked []int) []int {
	var l []int
	for u := range 1 << s.Depth {
		if !slices.Contains(revoked, u) {
			l = append(l, u)
		}
	}
	return l
}

func TestCoverHasTheOthers(t *testing.T) { // P3.7
	for _, s := range schemes() {
		for _, revoked := range lists(s.Depth) {
			l := must[[]api.Subset](t)(cover.Cover(s, revoked))
			parts(t, s, l, others(s, revoked))
			for i := 1; i < len(l); i++ {
				if l[i-1].Node >= l[i].Node {
					t.Errorf("%+v, %v: %v is out of order", s, revoked, l)
				}
			}
		}
	}
}

func TestCoverLengths(t *testing.T) { // P3.7
	for depth := range api.MaxDepth + 1 {
		for _, revoked := range lists(depth) {
			r := len(revoked)
			if r == 0 {
				continue
			}
			var n [4]int
			for _, kind := range kinds() {
				n[kind] = len(must[[]api.Subset](t)(cover.Cover(scheme(kind, depth), revoked)))
			}
			if n[subtree] > r*depth || n[difference] > min(2*r-1, n[subtree]) || n[layered] > min(2*n[difference], n[subtree]) {
				t.Errorf("depth %d, %v: %v subsets", depth, revoked, n)
			}
		}
	}
}

func TestSplit(t *testing.T) { // P3.2, P3.9
	for _, s := range schemes() {
		for _, x := range subsets(s) {
			got, e := cover.Split(s, x)
			all := members(s, x)
			if len(all) == 1 {
				if e != api.ErrNone || len(got) > 0 {
					t.Errorf("%+v, %v: %v, %v", s, x, got, e)
				}
				continue
			}
			if e != api.OK || len(got) != 2 || !slices.Equal(got, halves(s, x)) {
				t.Fatalf("%+v, %v: %v, %v, want %v", s, x, got, e, halves(s, x))
			}
			parts(t, s, got, all)
		}
		for _, x := range wrongSubsets(s) {
			if got, e := cover.Split(s, x); e != api.ErrSubset || len(got) > 0 {
				t.Errorf("%+v, %v: %v, %v", s, x, got, e)
			}
		}
	}
}

// halves follows the description of Split, for a subset of several members.
func halves(s api.Scheme, x api.Subset) []api.Subset {
	v, w := x.Node, x.Minus
	if s.Kind == subtree {
		return []api.Subset{{Node: 2 * v}, {Node: 2*v + 1}}
	}
	if w == 0 {
		return []api.Subset{{Node: 1, Minus: 2}, {Node: 1, Minus: 3}}
	}
	c := 2 * v
	if !below(w, c) {
		c++
	}
	o := 4*v + 1 - c
	if w == c {
		return []api.Subset{{Node: o, Minus: 2 * o}, {Node: o, Minus: 2*o + 1}}
	}
	k := c
	if !isSubset(s, api.Subset{Node: c, Minus: w}) {
		k = firstSpecial(s.Depth, v, w)
	}
	return []api.Subset{{Node: v, Minus: k}, {Node: k, Minus: w}}
}

func TestSplitExamples(t *testing.T) { // P3.2, Examples
	for _, c := range []struct {
		s       api.Scheme
		x, a, b api.Subset
	}{
		{scheme(difference, 3), api.Subset{Node: 1, Minus: 5}, api.Subset{Node: 1, Minus: 2}, api.Subset{Node: 2, Minus: 5}},
		{scheme(difference, 3), api.Subset{Node: 1, Minus: 2}, api.Subset{Node: 3, Minus: 6}, api.Subset{Node: 3, Minus: 7}},
		{scheme(difference, 3), api.Subset{Node: 2, Minus: 4}, api.Subset{Node: 5, Minus: 10}, api.Subset{Node: 5, Minus: 11}},
		{scheme(difference, 3), api.Subset{Node: 1}, api.Subset{Node: 1, Minus: 2}, api.Subset{Node: 1, Minus: 3}},
		{scheme(subtree, 3), api.Subset{Node: 1}, api.Subset{Node: 2}, api.Subset{Node: 3}},
		{scheme(layered, 6), api.Subset{Node: 1, Minus: 64}, api.Subset{Node: 1, Minus: 8}, api.Subset{Node: 8, Minus: 64}},
		{scheme(layered, 6), api.Subset{Node: 8, Minus: 64}, api.Subset{Node: 8, Minus: 16}, api.Subset{Node: 16, Minus: 64}},
		{scheme(layered, 6), api.Subset{Node: 1, Minus: 16}, api.Subset{Node: 1, Minus: 8}, api.Subset{Node: 8, Minus: 16}},
		{scheme(layered, 6), api.Subset{Node: 1, Minus: 8}, api.Subset{Node: 1, Minus: 2}, api.Subset{Node: 2, Minus: 8}},
		{scheme(difference, 6), api.Subset{Node: 1, Minus: 64}, api.Subset{Node: 1, Minus: 2}, api.Subset{Node: 2, Minus: 64}},
	} {
		got, e := cover.Split(c.s, c.x)
		if e != api.OK || !slices.Equal(got, []api.Subset{c.a, c.b}) {
			t.Errorf("%+v, %v: %v, %v", c.s, c.x, got, e)
		}
	}
	if got, e := cover.Split(scheme(difference, 3), api.Subset{Node: 4, Minus: 8}); e != api.ErrNone || len(got) > 0 {
		t.Error(got, e)
	}
}
