package cover_test

import (
	"math/rand"
	"slices"
	"testing"

	"headend/api"
	"headend/cover"
)

// labelsOf follows the definition of a receiver's labels.
func labelsOf(root api.Key, s api.Scheme, u int) []api.Label {
	var path []int
	for v := 1<<s.Depth + u; v > 0; v /= 2 {
		path = append([]int{v}, path...)
	}
	var l []api.Label
	if s.Kind == subtree {
		for _, v := range path {
			l = append(l, api.Label{Node: v, Key: label(root, v, v)})
		}
		return l
	}
	l = append(l, api.Label{Node: 1, Key: subsetKey(root, s, api.Subset{Node: 1})})
	for i, v := range path {
		for _, p := range path[i+1:] {
			w := p ^ 1
			if isSubset(s, api.Subset{Node: v, Minus: w}) {
				l = append(l, api.Label{Node: v, Minus: w, Key: label(root, v, w)})
			}
		}
	}
	return l
}

func TestSecret(t *testing.T) { // P3.3
	r := rand.New(rand.NewSource(1))
	for _, s := range schemes() {
		for u := range 1 << s.Depth {
			root := random(r)
			c, e := cover.Secret(root, s, u)
			if want := labelsOf(root, s, u); e != api.OK || !slices.Equal(c.Labels, want) {
				t.Fatalf("%+v, %d: %v, %v, want %v", s, u, c.Labels, e, want)
			}
			if c.Receiver != u || c.Share != (api.Point{}) {
				t.Errorf("%+v, %d: %+v", s, u, c)
			}
		}
		for _, u := range append(wild(), 1<<s.Depth) {
			if c, e := cover.Secret(random(r), s, u); e != api.ErrArg || c.Receiver != 0 || len(c.Labels) > 0 || c.Share != (api.Point{}) {
				t.Errorf("%+v, %d: %v, %v", s, u, c, e)
			}
		}
	}
}

func TestFixedSecrets(t *testing.T) { // P3.3, Examples
	type row struct {
		node, minus int
		key         string
	}
	for _, c := range []struct {
		s        api.Scheme
		receiver int
		labels   []row
	}{
		{scheme(subtree, 2), 0, []row{
			{1, 0, "a9fda98a81061310ee5c22b02921fa53"},
			{2, 0, "5a73ab86f3924281fd9e426dcbbb8b66"},
			{4, 0, "459b661eaaffaa745041c103edc07ae0"},
		}},
		{scheme(difference, 2), 0, []row{
			{1, 0, "70a48efc2086a5b4b5d35ca2b47f39b3"},
			{1, 3, "7d8191d520841595839e2f950f36fce9"},
			{1, 5, "0b02160d763e205c9d1596fb10617012"},
			{2, 5, "2bf4396c55fd553413ad54c45426672b"},
		}},
		{scheme(layered, 3), 6, []row{
			{1, 0, "70a48efc2086a5b4b5d35ca2b47f39b3"},
			{1, 2, "37b95f0dc2063fead7df4837912d2f7e"},
			{1, 6, "4b5dd4fc3dc6af25bd3bdb7f12b58134"},
			{1, 15, "15031ce06f70d3405658617e51ce52ee"},
			{3, 6, "27783214e9552bc478c1c6171b89d6b3"},
			{7, 15, "454b2ad553850b5e6558d2f9e2ee0d96"},
		}},
		{scheme(difference, 0), 0, []row{{1, 0, "70a48efc2086a5b4b5d35ca2b47f39b3"}}},
	} {
		var want []api.Label
		for _, l := range c.labels {
			want = append(want, api.Label{Node: l.node, Minus: l.minus, Key: block(t, l.key)})
		}
		if got := secretOf(t, rootKey(t), c.s, c.receiver); !slices.Equal(got.Labels, want) {
			t.Errorf("%+v, %d: %x", c.s, c.receiver, got.Labels)
		}
	}
}

func TestSubsetKey(t *testing.T) { // P3.3
	r := rand.New(rand.NewSource(2))
	for _, s := range schemes() {
		root := random(r)
		for _, x := range subsets(s) {
			if got, e := cover.SubsetKey(root, s, x); e != api.OK || got != subsetKey(root, s, x) {
				t.Errorf("%+v, %v: %x, %v", s, x, got, e)
			}
		}
		for _, x := range wrongSubsets(s) {
			if got, e := cover.SubsetKey(root, s, x); e != api.ErrSubset || got != (api.Key{}) {
				t.Errorf("%+v, %v: %x, %v", s, x, got, e)
			}
		}
	}
}

func TestFixedSubsetKeys(t *testing.T) { // P3.3
	for _, c := range []struct {
		kind               uint8
		depth, node, minus int
		key                string
	}{
		{subtree, 6, 127, 0, "8280183826318eb67947f05bb40e6d8d"},
		{subtree, 0, 1, 0, "a9fda98a81061310ee5c22b02921fa53"},
		{difference, 3, 1, 0, "70a48efc2086a5b4b5d35ca2b47f39b3"},
		{layered, 6, 1, 0, "70a48efc2086a5b4b5d35ca2b47f39b3"},
		{difference, 3, 1, 5, "05715c49cd604186040e5e16104dd909"},
		{difference, 6, 1, 64, "fe986f57b36acebb58a132a790eb8b01"},
		{difference, 6, 1, 127, "7fed8579044293fd812192f67cf0509d"},
		{difference, 6, 37, 75, "dfce4ffb0700303ae7cbe7a61366a84b"},
		{layered, 6, 8, 64, "c40e9f2a1d3abfbb55647a2c4167e934"},
		{layered, 6, 1, 95, "171215282c7fcd2265221eedf9093ccc"},
		{difference, 1, 1, 2, "6551c971bc9df7b08a5f4cc4dba6d3f5"},
		{difference, 1, 1, 3, "0c9d368710069e81dd325733c22eff65"},
	} {
		x := api.Subset{Node: c.node, Minus: c.minus}
		got, e := cover.SubsetKey(rootKey(t), scheme(c.kind, c.depth), x)
		if e != api.OK || got != block(t, c.key) {
			t.Errorf("%+v: %x, %v", c, got, e)
		}
	}
}

func TestFindOfSecrets(t *testing.T) { // P3.4, P3.8
	r := rand.New(rand.NewSource(3))
	for _, s := range schemes() {
		root := random(r)
		for u := range 1 << s.Depth {
			c := secretOf(t, root, s, u)
			for _, x := range subsets(s) {
				got, e := cover.Find(s, c, x)
				switch {
				case isMember(s, u, x) && (e != api.OK || got != subsetKey(root, s, x)):
					t.Fatalf("%+v, %d is in %v: %x, %v", s, u, x, got, e)
				case !isMember(s, u, x) && (e != api.ErrNone || got != api.Key{}):
					t.Fatalf("%+v, %d is not in %v: %x, %v", s, u, x, got, e)
				}
			}
		}
	}
}

func TestFindOfNoSubset(t *testing.T) { // P3.4, R5
	for _, s := range schemes() {
		for _, x := range wrongSubsets(s) {
			c := api.Secret{Labels: []api.Label{{Node: x.Node, Minus: x.Minus, Key: api.Key{1}}}}
			if got, e := cover.Find(s, c, x); e != api.ErrSubset || got != (api.Key{}) {
				t.Errorf("%+v, %v: %x, %v", s, x, got, e)
			}
		}
	}
}

// keyFrom follows the definition of what a label leads to.
func keyFrom(s api.Scheme, l api.Label, x api.Subset) (api.Key, bool) {
	if s.Kind == subtree || x.Minus == 0 {
		return l.Key, l.Node == x.Node && l.Minus == x.Minus
	}
	if l.Node != x.Node || l.Minus < 1 || !below(l.Minus, x.Node) || !below(x.Minus, l.Minus) {
		return api.Key{}, false
	}
	var way []int
	for w := x.Minus; w != l.Minus; w /= 2 {
		way = append([]int{w}, way...)
	}
	k := l.Key
	for _, w := range way {
		k = step(k, w)
	}
	return final(k), true
}

// anyLabels returns labels with nodes of the tree, or with any numbers.
func anyLabels(r *rand.Rand, s api.Scheme) []api.Label {
	far := wild()
	number := func() int {
		if r.Intn(8) == 0 {
			return far[r.Intn(len(far))]
		}
		return r.Intn(2 << s.Depth)
	}
	var l []api.Label
	for range r.Intn(200) {
		v := number()
		m := number()
		if r.Intn(2) == 0 {
			m = v
		}
		l = append(l, api.Label{Node: v, Minus: m, Key: random(r)})
	}
	return l
}

func TestFindOfAnyLabels(t *testing.T) { // P3.4, R6, R7
	r := rand.New(rand.NewSource(4))
	for _, s := range schemes() {
		all := subsets(s)
		for range 200 {
			c := api.Secret{Receiver: r.Int() - r.Int(), Labels: anyLabels(r, s), Share: api.Point{X: r.Uint64(), Y: 7}}
			x := all[r.Intn(len(all))]
			var want api.Key
			found := api.ErrNone
			for _, l := range c.Labels {
				if k, ok := keyFrom(s, l, x); ok {
					want, found = k, api.OK
					break
				}
			}
			if got, e := cover.Find(s, c, x); got != want || e != found {
				t.Fatalf("%+v, %v, %v: %x, %v, want %x, %v", s, c, x, got, e, want, found)
			}
		}
	}
}

func TestFindTakesTheFirstLabel(t *testing.T) { // P3.4
	a, b := api.Key{1}, api.Key{2}
	for _, c := range []struct {
		s      api.Scheme
		x      api.Subset
		labels []api.Label
		want   api.Key
	}{
		{scheme(subtree, 2), api.Subset{Node: 2}, []api.Label{{Node: 1, Key: b}, {Node: 2, Minus: 2, Key: b}, {Node: 2, Key: a}, {Node: 2, Key: b}}, a},
		{scheme(difference, 2), api.Subset{Node: 1}, []api.Label{{Node: 1, Minus: 1, Key: b}, {Node: 1, Minus: 2, Key: b}, {Node: 1, Key: a}, {Node: 1, Key: b}}, a},
		{scheme(difference, 2), api.Subset{Node: 1, Minus: 4}, []api.Label{{Node: 1, Minus: 5, Key: b}, {Node: 2, Minus: 4, Key: b}, {Node: 1, Minus: 4, Key: a}, {Node: 1, Minus: 1, Key: b}}, final(a)},
		{scheme(difference, 2), api.Subset{Node: 1, Minus: 4}, []api.Label{{Node: 1, Minus: 2, Key: a}, {Node: 1, Minus: 4, Key: b}}, final(step(a, 4))},
		{scheme(difference, 2), api.Subset{Node: 1, Minus: 5}, []api.Label{{Node: 1, Minus: 1, Key: a}, {Node: 1, Minus: 2, Key: b}}, final(step(step(a, 2), 5))},
		// The label of a layered scheme may belong to no subset of the scheme.
		{scheme(layered, 6), api.Subset{Node: 2, Minus: 8}, []api.Label{{Node: 2, Minus: 2, Key: a}}, final(step(step(a, 4), 8))},
	} {
		if got, e := cover.Find(c.s, api.Secret{Labels: c.labels}, c.x); e != api.OK || got != c.want {
			t.Errorf("%+v, %v: %x, %v", c.s, c.x, got, e)
		}
	}
	if got, e := cover.Find(scheme(difference, 2), api.Secret{}, api.Subset{Node: 1}); e != api.ErrNone || got != (api.Key{}) {
		t.Error(got, e)
	}
}

func TestWork(t *testing.T) { // P3.4
	for _, s := range schemes() {
		for u := range 1 << s.Depth {
			for _, x := range subsets(s) {
				want, found := workOf(s, u, x)
				if got, e := cover.Work(s, u, x); got != want || e != found {
					t.Fatalf("%+v, %d, %v: %d, %v, want %d, %v", s, u, x, got, e, want, found)
				}
			}
		}
	}
}

// workOf counts the derivations: one for TagMiddle, and one for each node of Minus's path behind the one at which the receiver's path leaves it.
func workOf(s api.Scheme, u int, x api.Subset) (int, api.Errno) {
	if !isMember(s, u, x) {
		return 0, api.ErrNone
	}
	if x.Minus == 0 {
		return 0, api.OK
	}
	n := 1
	for w := x.Minus; !below(1<<s.Depth+u, w/2); w /= 2 {
		n++
	}
	return n, api.OK
}

func TestWorkExamples(t *testing.T) { // P3.4, Examples, R1
	for _, c := range []struct {
		kind           uint8
		receiver, v, w int
		want           int
		e              api.Errno
	}{
		{difference, 0, 1, 12, 3, api.OK},
		{difference, 0, 1, 3, 1, api.OK},
		{difference, 2, 1, 5, 0, api.ErrNone},
		{difference, 2, 1, 0, 0, api.OK},
		{subtree, 2, 5, 0, 0, api.OK},
		{subtree, 4, 5, 0, 0, api.ErrNone},
		{layered, 0, 1, 12, 3, api.OK},
		{layered, 0, 2, 12, 0, api.ErrSubset},
		{layered, 7, 2, 8, 0, api.ErrSubset},
		{difference, 7, 2, 0, 0, api.ErrSubset},
		{difference, 8, 2, 0, 0, api.ErrArg},
		{difference, -1, 1, 0, 0, api.ErrArg},
	} {
		got, e := cover.Work(scheme(c.kind, 3), c.receiver, api.Subset{Node: c.v, Minus: c.w})
		if got != c.want || e != c.e {
			t.Errorf("%+v: %d, %v", c, got, e)
		}
	}
}

func TestWorkOfWrongArguments(t *testing.T) { // P3.4, R1, R5
	for _, s := range schemes() {
		for _, u := range append(wild(), 1<<s.Depth) {
			for _, x := range []api.Subset{{Node: 1}, {}, {Node: -1, Minus: -1}} {
				if got, e := cover.Work(s, u, x); e != api.ErrArg || got != 0 {
					t.Errorf("%+v, %d, %v: %d, %v", s, u, x, got, e)
				}
			}
		}
		for _, x := range wrongSubsets(s) {
			if got, e := cover.Work(s, 1<<s.Depth-1, x); e != api.ErrSubset || got != 0 {
				t.Errorf("%+v, %v: %d, %v", s, x, got, e)
			}
		}
	}
}

// leadsTo reports whether a label of one of some secrets leads to the key of a subset.
func leadsTo(s api.Scheme, secrets []api.Secret, x api.Subset) bool {
	return slices.ContainsFunc(secrets, func(c api.Secret) bool {
		return slices.ContainsFunc(c.Labels, func(l api.Label) bool {
			_, ok := keyFrom(s, l, x)
			return ok
		})
	})
}

func TestKnows(t *testing.T) { // P3.4, P3.8
	r := rand.New(rand.NewSource(5))
	for _, s := range schemes() {
		all := subsets(s)
		for range 100 {
			coalition := someReceivers(r, s.Depth, 1+r.Intn(40))
			var secrets []api.Secret
			for _, u := range coalition {
				secrets = append(secrets, secretOf(t, rootKey(t), s, u))
			}
			for range 10 {
				x := all[r.Intn(len(all))]
				got, e := cover.Knows(s, coalition, x)
				if e != api.OK || got != leadsTo(s, secrets, x) {
					t.Fatalf("%+v, %v, %v: %v, %v", s, coalition, x, got, e)
				}
				if got != slices.ContainsFunc(coalition, func(u int) bool { return isMember(s, u, x) }) {
					t.Fatalf("%+v, %v, %v: %v", s, coalition, x, got)
				}
			}
		}
	}
}

func TestKnowsOfWrongArguments(t *testing.T) { // P3.4, R1, R5
	for _, s := range schemes() {
		for _, l := range wrongLists(s.Depth) {
			for _, x := range []api.Subset{{Node: 1}, {}, {Node: 1, Minus: 1}} {
				if got, e := cover.Knows(s, l, x); e != api.ErrArg || got {
					t.Errorf("%+v, %v, %v: %v, %v", s, l, x, got, e)
				}
			}
		}
		for _, x := range wrongSubsets(s) {
			if got, e := cover.Knows(s, []int{0}, x); e != api.ErrSubset || got {
				t.Errorf("%+v, %v: %v, %v", s, x, got, e)
			}
		}
		if got, e := cover.Knows(s, nil, api.Subset{Node: 1}); e != api.OK || got {
			t.Errorf("%+v: %v, %v", s, got, e)
		}
	}
}

func TestRevokedKnowNothing(t *testing.T) { // P3.8
	for _, s := range schemes() {
		for _, revoked := range lists(s.Depth) {
			for _, x := range must[[]api.Subset](t)(cover.Cover(s, revoked)) {
				if got, e := cover.Knows(s, revoked, x); e != api.OK || got {
					t.Errorf("%+v, %v: %v, %v, %v", s, revoked, x, got, e)
				}
			}
		}
	}
}

func TestLabelsOfASecret(t *testing.T) { // P3.9
	for _, s := range schemes() {
		n := must[int](t)(cover.Storage(s))
		for u := range 1 << s.Depth {
			c := secretOf(t, rootKey(t), s, u)
			seen := map[api.Subset]bool{}
			for _, l := range c.Labels {
				x := api.Subset{Node: l.Node, Minus: l.Minus}
				if seen[x] || !isMember(s, u, x) {
					t.Errorf("%+v, %d: %v", s, u, x)
				}
				seen[x] = true
			}
			if len(c.Labels) != n {
				t.Errorf("%+v, %d: %d labels, want %d", s, u, len(c.Labels), n)
			}
		}
	}
}
