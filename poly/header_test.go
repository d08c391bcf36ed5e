package poly_test

import (
	"math"
	"math/rand"
	"slices"
	"testing"

	"headend/api"
	"headend/cipher"
	"headend/poly"
)

// someLists returns lists of revoked receivers that a header can leave out, of many lengths.
func someLists(r *rand.Rand, s api.Scheme) [][]int {
	if s.Depth <= 2 {
		return sublists(s.Depth, s.Degree)
	}
	var ls [][]int
	for n := range s.Degree + 1 {
		ls = append(ls, someReceivers(r, s.Depth, n))
	}
	last := 1<<s.Depth - 1
	return append(ls, []int{0}, []int{last})
}

func TestSeal(t *testing.T) { // P4.3
	r := rand.New(rand.NewSource(1))
	for _, s := range schemes() {
		for _, revoked := range someLists(r, s) {
			root, session := random(r), random(r)
			for _, nonce := range []uint64{0, 1, math.MaxUint64, r.Uint64()} {
				h, e := poly.Seal(root, s, revoked, session, nonce)
				if want := sealed(root, s, revoked, session, nonce); e != api.OK || !isSameHeader(h, want) {
					t.Fatalf("%+v, %v, %d: %+v, %v, want %+v", s, revoked, nonce, h, e, want)
				}
			}
		}
	}
}

func TestFixedHeaders(t *testing.T) { // P4.3
	down := block(t, "0f0e0d0c0b0a09080706050403020100")
	for _, c := range []struct {
		root    api.Key
		s       api.Scheme
		revoked []int
		nonce   uint64
		base    uint64
		points  []api.Point
		box     string
	}{
		{rootKey(t), example(), []int{1}, 0, 4, []api.Point{{X: 2, Y: 13}, {X: 5, Y: 6}}, "cd55699b1417b3cfb072a0f57652cae9"},
		{rootKey(t), example(), nil, math.MaxUint64, 3, []api.Point{{X: 5, Y: 8}, {X: 6, Y: 13}}, "e271f08b39735aa8e5bd212a51709d47"},
		{down, example(), []int{1}, 258, 3, []api.Point{{X: 2, Y: 13}, {X: 5, Y: 3}}, "a47a111535611174b51c9c30769a8f23"},
		{down, example(), []int{0, 2}, math.MaxUint64, 6, []api.Point{{X: 1, Y: 8}, {X: 3, Y: 9}}, "a47a111535611174b51c9c30769a8f23"},
		{down, scheme(6, 1, api.Group{P: 1048573, Q: 73, G: 119273}), nil, 5, 181977, []api.Point{{X: 65, Y: 81572}}, "6f612bffe066bc17383d2c10f43b1c21"},
		{rootKey(t), scheme(6, 8, api.Group{P: 1048343, Q: 524171, G: 1048338}), []int{0, 9, 63}, 7, 949390, []api.Point{
			{X: 1, Y: 677085}, {X: 10, Y: 403099}, {X: 64, Y: 566291}, {X: 65, Y: 439169}, {X: 66, Y: 239004}, {X: 67, Y: 511508}, {X: 68, Y: 488192}, {X: 69, Y: 269498},
		}, "4ae18b9c45a8bb00593848e97fc75ae0"},
	} {
		want := api.Header{Base: c.base, Points: c.points, Box: block(t, c.box), Check: block(t, "0e08ac8c3f93e3ca512639313078ac0e")}
		h, e := poly.Seal(c.root, c.s, c.revoked, block(t, "0123456789abcdeffedcba9876543210"), c.nonce)
		if e != api.OK || !isSameHeader(h, want) {
			t.Errorf("%+v: %+v, %v", c, h, e)
		}
	}
}

func TestSealErrors(t *testing.T) { // P4.3, R1, R2, R5
	r := rand.New(rand.NewSource(2))
	for _, s := range schemes() {
		check := func(revoked []int, want api.Errno) {
			t.Helper()
			if h, e := poly.Seal(random(r), s, revoked, random(r), r.Uint64()); e != want || !isSameHeader(h, api.Header{}) {
				t.Errorf("%+v, %v: %+v, %v", s, revoked, h, e)
			}
		}
		for _, l := range wrongLists(s.Depth) {
			check(l, api.ErrArg)
		}
		for n := s.Degree + 1; n <= 1<<s.Depth; n++ {
			many := someReceivers(r, s.Depth, n)
			check(many, api.ErrMany)
			check(append(many, many[n-1]), api.ErrArg)
			check(append(many[:n-1:n-1], 1<<s.Depth), api.ErrArg)
		}
	}
}

func TestSealFailsForNoKey(t *testing.T) { // P4.8
	r := rand.New(rand.NewSource(3))
	keys := append(edgeKeys(), random(r), random(r), random(r))
	s := scheme(1, 3, api.Group{P: 43, Q: 7, G: 4})
	for _, root := range keys {
		for _, session := range keys {
			for nonce := range uint64(30) {
				h := must[api.Header](t)(poly.Seal(root, s, []int{1}, session, nonce*(math.MaxUint64/29)))
				if h.Base < 2 || h.Base >= 43 {
					t.Error(h)
				}
			}
		}
	}
}

func TestSealExamples(t *testing.T) { // P4.3, P4.4, Examples
	root, session := api.Key{1}, api.Key{2}
	for _, c := range []struct {
		revoked []int
		x       []uint64
		e       api.Errno
	}{
		{[]int{1}, []uint64{2, 5}, api.OK},
		{[]int{0, 2}, []uint64{1, 3}, api.OK},
		{nil, []uint64{5, 6}, api.OK},
		{[]int{}, []uint64{5, 6}, api.OK},
		{[]int{0, 1, 2}, nil, api.ErrMany},
	} {
		h, e := poly.Seal(root, example(), c.revoked, session, 9)
		var x []uint64
		for _, p := range h.Points {
			x = append(x, p.X)
		}
		if e != c.e || !slices.Equal(x, c.x) {
			t.Errorf("%+v: %v, %v", c, x, e)
		}
	}
	h := must[api.Header](t)(poly.Seal(root, example(), []int{1}, session, 9))
	for u, want := range []api.Errno{api.OK, api.ErrNone, api.OK, api.OK} {
		k, e := poly.Open(example(), secretOf(t, root, example(), u), h)
		if e != want || e == api.OK && k != session {
			t.Errorf("%d: %x, %v", u, k, e)
		}
	}
}

func TestOpenOfWhatWasSealed(t *testing.T) { // P4.4, P4.7
	r := rand.New(rand.NewSource(4))
	for _, s := range schemes() {
		for _, revoked := range someLists(r, s) {
			root, session := random(r), random(r)
			h := must[api.Header](t)(poly.Seal(root, s, revoked, session, r.Uint64()))
			for u := range 1 << s.Depth {
				got, e := poly.Open(s, secretOf(t, root, s, u), h)
				out := slices.Contains(revoked, u)
				if out && (e != api.ErrNone || got != api.Key{}) || !out && (e != api.OK || got != session) {
					t.Fatalf("%+v, %v, %d: %x, %v", s, revoked, u, got, e)
				}
			}
		}
	}
}

// anyHeader returns a header of a scheme with any numbers, and a share that is in none of its points, for which it opens.
func anyHeader(r *rand.Rand, s api.Scheme, session api.Key) (api.Point, api.Header) {
	p, q := s.Group.P, s.Group.Q
	below := func(most uint64) uint64 {
		return []uint64{1, most - 1, 1 + r.Uint64()%(most-1)}[r.Intn(3)]
	}
	var points []api.Point
	for len(points) <= s.Degree {
		x := below(q)
		if !slices.ContainsFunc(points, func(other api.Point) bool { return other.X == x }) {
			points = append(points, api.Point{X: x, Y: below(p)})
		}
	}
	share := api.Point{X: points[0].X, Y: r.Uint64() % q}
	if r.Intn(4) == 0 {
		share.Y = []uint64{0, q - 1}[r.Intn(2)]
	}
	h := api.Header{Base: below(p), Points: points[1:], Check: cipher.Derive(session, 53, 0)}
	h.Box = cipher.Encrypt(maskKey(maskOf(s, share, h.Base, h.Points)), session)
	return share, h
}

// The numbers of a header need not be elements of the group.
func TestOpenOfAnyHeader(t *testing.T) { // P4.4, R6
	r := rand.New(rand.NewSource(5))
	for _, s := range schemes() {
		for range 20 {
			session := random(r)
			share, h := anyHeader(r, s, session)
			// Nothing but the share of a secret is looked at.
			c := api.Secret{Receiver: r.Int() - r.Int(), Labels: make([]api.Label, r.Intn(3)), Share: share}
			if got, e := poly.Open(s, c, h); e != api.OK || got != session {
				t.Fatalf("%+v, %+v, %+v: %x, %v", s, share, h, got, e)
			}
			h.Items = []api.Item{}
			slices.Reverse(h.Points)
			if got, e := poly.Open(s, api.Secret{Share: share}, h); e != api.OK || got != session {
				t.Fatalf("%+v, %+v, %+v in another order: %x, %v", s, share, h, got, e)
			}
			c.Share.X = h.Points[r.Intn(s.Degree)].X
			if got, e := poly.Open(s, c, h); e != api.ErrNone || got != (api.Key{}) {
				t.Fatalf("%+v, %+v, %+v: %x, %v", s, c, h, got, e)
			}
		}
	}
}

// The header opens for a share with an X of its points, if only the check were asked.
func TestOpenForTheXOfAPoint(t *testing.T) { // P4.4
	root, session := api.Key{1}, api.Key{2}
	s := example()
	h := must[api.Header](t)(poly.Seal(root, s, []int{1}, session, 9))
	for x := uint64(1); x < 11; x++ {
		c := api.Secret{Share: api.Point{X: x, Y: valueOf(secretCoefficients(root, s), x, 11)}}
		got, e := poly.Open(s, c, h)
		if isIn := x == 2 || x == 5; isIn && (e != api.ErrNone || got != api.Key{}) || !isIn && (e != api.OK || got != session) {
			t.Errorf("%d: %x, %v", x, got, e)
		}
	}
}

func TestOpenWithAnotherCheckOrBox(t *testing.T) { // P4.4
	r := rand.New(rand.NewSource(6))
	for _, s := range schemes() {
		share, h := anyHeader(r, s, random(r))
		for i := range h.Check {
			wrong, boxed := h, h
			wrong.Check[i] ^= 0x20
			boxed.Box[i] ^= 1
			for _, h := range []api.Header{wrong, boxed} {
				if got, e := poly.Open(s, api.Secret{Share: share}, h); e != api.ErrNone || got != (api.Key{}) {
					t.Errorf("%+v, byte %d: %x, %v", s, i, got, e)
				}
			}
		}
	}
}

func TestOpenWithAnotherShare(t *testing.T) { // P4.4
	root, session := api.Key{1}, api.Key{2}
	s := scheme(2, 3, api.Group{P: 47, Q: 23, G: 2})
	h := must[api.Header](t)(poly.Seal(root, s, []int{2}, session, 9))
	own := secretOf(t, root, s, 1)
	for y := range uint64(23) {
		c := own
		c.Share.Y = y
		got, e := poly.Open(s, c, h)
		if right := y == own.Share.Y; right && (e != api.OK || got != session) || !right && (e != api.ErrNone || got != api.Key{}) {
			t.Errorf("%d: %x, %v", y, got, e)
		}
	}
}

func TestOpenOfNoHeader(t *testing.T) { // P4.4, R1, R2, R5
	r := rand.New(rand.NewSource(7))
	for _, s := range schemes() {
		share, good := anyHeader(r, s, random(r))
		last := s.Degree - 1
		p, q := s.Group.P, s.Group.Q
		changes := map[string]func(h *api.Header){
			"an item":         func(h *api.Header) { h.Items = make([]api.Item, 1) },
			"no base":         func(h *api.Header) { h.Base = 0 },
			"base":            func(h *api.Header) { h.Base = p },
			"base and more":   func(h *api.Header) { h.Base += p },
			"no points":       func(h *api.Header) { h.Points = nil },
			"one point less":  func(h *api.Header) { h.Points = h.Points[:last] },
			"one point twice": func(h *api.Header) { h.Points = append(h.Points, h.Points[0]) },
			"many points":     func(h *api.Header) { h.Points = slices.Repeat(h.Points, 20) },
			"first x 0":       func(h *api.Header) { h.Points[0].X = 0 },
			"last x 0":        func(h *api.Header) { h.Points[last].X = 0 },
			"last x":          func(h *api.Header) { h.Points[last].X = q },
			"first x":         func(h *api.Header) { h.Points[0].X += q },
			"first y 0":       func(h *api.Header) { h.Points[0].Y = 0 },
			"last y 0":        func(h *api.Header) { h.Points[last].Y = 0 },
			"last y":          func(h *api.Header) { h.Points[last].Y = p },
			"first y":         func(h *api.Header) { h.Points[0].Y += p },
			"more points": func(h *api.Header) {
				for x := uint64(1); len(h.Points) <= s.Degree; x++ {
					if !slices.ContainsFunc(h.Points, func(p api.Point) bool { return p.X == x }) {
						h.Points = append(h.Points, api.Point{X: x, Y: 1})
					}
				}
			},
		}
		for i, far := range wildNumbers() {
			name := "far " + string(rune('a'+i))
			changes[name+" base"] = func(h *api.Header) { h.Base = far }
			changes[name+" x"] = func(h *api.Header) { h.Points[r.Intn(s.Degree)].X = far }
			changes[name+" y"] = func(h *api.Header) { h.Points[r.Intn(s.Degree)].Y = far }
		}
		if s.Degree > 1 {
			changes["two equal x"] = func(h *api.Header) { h.Points[last].X = h.Points[0].X }
			changes["two equal points"] = func(h *api.Header) { h.Points[last] = h.Points[last-1] }
		}
		for name, change := range changes {
			h := good
			h.Points = slices.Clone(good.Points)
			change(&h)
			for _, share := range []api.Point{share, {X: good.Points[0].X}} {
				if got, e := poly.Open(s, api.Secret{Share: share}, h); e != api.ErrBad || got != (api.Key{}) {
					t.Errorf("%+v, %s: %x, %v", s, name, got, e)
				}
			}
		}
	}
}

func TestOpenWithNoShare(t *testing.T) { // P4.4, R1, R5
	r := rand.New(rand.NewSource(8))
	for _, s := range schemes() {
		share, h := anyHeader(r, s, random(r))
		q := s.Group.Q
		wrong := []api.Point{{}, {X: 0, Y: share.Y}, {X: q, Y: share.Y}, {X: share.X + q, Y: share.Y}, {X: share.X, Y: q}, {X: share.X, Y: share.Y + q}, {X: h.Points[0].X, Y: q}, {X: 0, Y: q}}
		for _, far := range wildNumbers() {
			wrong = append(wrong, api.Point{X: far, Y: share.Y}, api.Point{X: share.X, Y: far}, api.Point{X: h.Points[0].X, Y: far})
		}
		for _, p := range wrong {
			if got, e := poly.Open(s, api.Secret{Share: p}, h); e != api.ErrBad || got != (api.Key{}) {
				t.Errorf("%+v, %v: %x, %v", s, p, got, e)
			}
		}
	}
}

// polynomials returns all polynomials of a scheme.
func polynomials(s api.Scheme) [][]uint64 {
	l := [][]uint64{nil}
	for range s.Degree + 1 {
		var longer [][]uint64
		for _, f := range l {
			for c := range s.Group.Q {
				longer = append(longer, append(slices.Clone(f), c))
			}
		}
		l = longer
	}
	return l
}

// fits reports whether shares lie on a polynomial that gives the points of a header.
func fits(s api.Scheme, f []uint64, shares []api.Point, h api.Header) bool {
	p, q := s.Group.P, s.Group.Q
	for _, share := range shares {
		if valueOf(f, share.X, q) != share.Y {
			return false
		}
	}
	for _, point := range h.Points {
		if power(h.Base, valueOf(f, point.X, q), p) != point.Y {
			return false
		}
	}
	return true
}

// What the revoked ones have fits each value at 0, and each of these has another mask.
func TestHiddenFromTheRevoked(t *testing.T) { // P4.7
	for _, s := range []api.Scheme{
		scheme(0, 1, api.Group{P: 7, Q: 3, G: 2}),
		scheme(1, 1, api.Group{P: 11, Q: 5, G: 3}),
		scheme(1, 2, api.Group{P: 11, Q: 5, G: 3}),
		scheme(1, 3, api.Group{P: 43, Q: 7, G: 4}),
		scheme(2, 2, api.Group{P: 23, Q: 11, G: 2}),
	} {
		all, root := polynomials(s), api.Key{7, 7}
		for _, revoked := range sublists(s.Depth, s.Degree) {
			h := must[api.Header](t)(poly.Seal(root, s, revoked, api.Key{8}, 5))
			var shares []api.Point
			for _, u := range revoked {
				shares = append(shares, secretOf(t, root, s, u).Share)
			}
			many, masks := map[uint64]int{}, map[uint64]bool{}
			for _, f := range all {
				if fits(s, f, shares, h) {
					many[f[0]]++
					masks[power(h.Base, f[0], s.Group.P)] = true
				}
			}
			for v := range s.Group.Q {
				if many[v] != 1 {
					t.Errorf("%+v, %v: %d polynomials with %d at 0", s, revoked, many[v], v)
				}
			}
			if uint64(len(masks)) != s.Group.Q {
				t.Errorf("%+v, %v: %d masks", s, revoked, len(masks))
			}
		}
	}
}

// For large groups the polynomial with a value at 0 is the one that Interpolate returns.
func TestEachValueAtZeroFits(t *testing.T) { // P4.6, P4.7
	r := rand.New(rand.NewSource(9))
	for _, s := range schemes() {
		root, revoked := random(r), someReceivers(r, s.Depth, s.Degree)
		h := must[api.Header](t)(poly.Seal(root, s, revoked, random(r), r.Uint64()))
		var shares []api.Point
		for _, u := range revoked {
			shares = append(shares, secretOf(t, root, s, u).Share)
		}
		for _, v := range []uint64{0, 1, s.Group.Q - 1, r.Uint64() % s.Group.Q} {
			points := []api.Point{{Y: v}}
			for _, p := range h.Points {
				points = append(points, api.Point{X: p.X, Y: valueOf(secretCoefficients(root, s), p.X, s.Group.Q)})
			}
			f := must[[]uint64](t)(poly.Interpolate(s, points))
			if f[0] != v || !fits(s, f, shares, h) {
				t.Errorf("%+v, %v, %d: %v", s, revoked, v, f)
			}
		}
	}
}
