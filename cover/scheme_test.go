package cover_test

import (
	"slices"
	"testing"

	"headend/api"
	"headend/cover"
)

func TestCheck(t *testing.T) { // P3.1
	for _, s := range schemes() {
		if e := cover.Check(s); e != api.OK {
			t.Errorf("%+v: %v", s, e)
		}
	}
	for _, s := range wrongSchemes() {
		if e := cover.Check(s); e != api.ErrScheme {
			t.Errorf("%+v: %v", s, e)
		}
	}
}

func TestMembers(t *testing.T) { // P3.1
	for _, s := range schemes() {
		for _, x := range subsets(s) {
			got, e := cover.Members(s, x)
			if want := members(s, x); e != api.OK || !slices.Equal(got, want) || len(got) == 0 {
				t.Errorf("%+v, %v: %v, %v, want %v", s, x, got, e, want)
			}
		}
		for _, x := range wrongSubsets(s) {
			if got, e := cover.Members(s, x); e != api.ErrSubset || len(got) > 0 {
				t.Errorf("%+v, %v: %v, %v", s, x, got, e)
			}
		}
	}
}

func TestMembersExamples(t *testing.T) { // P3.1, Examples
	for _, c := range []struct {
		s    api.Scheme
		x    api.Subset
		want []int
		e    api.Errno
	}{
		{scheme(difference, 3), api.Subset{Node: 1, Minus: 5}, []int{0, 1, 4, 5, 6, 7}, api.OK},
		{scheme(difference, 3), api.Subset{Node: 2, Minus: 8}, []int{1, 2, 3}, api.OK},
		{scheme(difference, 3), api.Subset{Node: 2, Minus: 3}, nil, api.ErrSubset},
		{scheme(layered, 6), api.Subset{Node: 2, Minus: 16}, nil, api.ErrSubset},
		{scheme(layered, 6), api.Subset{Node: 2, Minus: 8}, []int{8, 9, 10, 11, 12, 13, 14, 15, 16, 17, 18, 19, 20, 21, 22, 23, 24, 25, 26, 27, 28, 29, 30, 31}, api.OK},
		{scheme(subtree, 3), api.Subset{Node: 5}, []int{2, 3}, api.OK},
		{scheme(subtree, 0), api.Subset{Node: 1}, []int{0}, api.OK},
		{scheme(layered, 0), api.Subset{Node: 1}, []int{0}, api.OK},
		{scheme(difference, 3), api.Subset{Node: 2}, nil, api.ErrSubset},
		{scheme(subtree, 3), api.Subset{Node: 1, Minus: 2}, nil, api.ErrSubset},
	} {
		if got, e := cover.Members(c.s, c.x); e != c.e || !slices.Equal(got, c.want) {
			t.Errorf("%+v, %v: %v, %v", c.s, c.x, got, e)
		}
	}
}

func TestStorage(t *testing.T) { // P3.1, P3.9, Examples
	want := map[uint8][]int{
		subtree:    {1, 2, 3, 4, 5, 6, 7},
		difference: {1, 2, 4, 7, 11, 16, 22},
		layered:    {1, 2, 4, 6, 9, 12, 16},
	}
	for _, s := range schemes() {
		if got, e := cover.Storage(s); e != api.OK || got != want[s.Kind][s.Depth] {
			t.Errorf("%+v: %d, %v, want %d", s, got, e, want[s.Kind][s.Depth])
		}
	}
}
