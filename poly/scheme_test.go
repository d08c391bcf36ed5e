package poly_test

import (
	"math/rand"
	"slices"
	"testing"

	"headend/api"
	"headend/poly"
)

func TestCheck(t *testing.T) { // P4.1, Examples
	for _, s := range schemes() {
		if e := poly.Check(s); e != api.OK {
			t.Errorf("%+v: %v", s, e)
		}
	}
	for _, s := range wrongSchemes() {
		if e := poly.Check(s); e != api.ErrScheme {
			t.Errorf("%+v: %v", s, e)
		}
	}
	s := example()
	if e := poly.Check(s); e != api.OK {
		t.Error(e)
	}
	s.Degree = 9
	if e := poly.Check(s); e != api.ErrScheme {
		t.Error(e)
	}
	s = example()
	s.Depth = 4
	if e := poly.Check(s); e != api.ErrScheme {
		t.Error(e)
	}
	s = example()
	s.Group.G = 5
	if e := poly.Check(s); e != api.ErrScheme {
		t.Error(e)
	}
}

func TestCheckOfAllSmallNumbers(t *testing.T) { // P4.1: Q is greater than 2^Depth + Degree
	for _, g := range groups() {
		for depth := -3; depth < 12; depth++ {
			for degree := -3; degree < 15; degree++ {
				want := api.ErrScheme
				if depth >= 0 && depth <= 6 && degree >= 1 && degree <= 8 && int(g.Q) > 1<<depth+degree {
					want = api.OK
				}
				if e := poly.Check(scheme(depth, degree, g)); e != want {
					t.Errorf("%d, %d, %+v: %v", depth, degree, g, e)
				}
			}
		}
	}
}

func TestCoefficients(t *testing.T) { // P4.1
	r := rand.New(rand.NewSource(1))
	for _, s := range schemes() {
		for _, root := range append(edgeKeys(), random(r), random(r)) {
			l, e := poly.Coefficients(root, s)
			if e != api.OK || !slices.Equal(l, secretCoefficients(root, s)) {
				t.Errorf("%+v, %x: %v, %v", s, root, l, e)
			}
		}
	}
}

func TestFixedCoefficients(t *testing.T) { // P4.1
	s := scheme(6, 8, api.Group{P: 1048343, Q: 524171, G: 1048338})
	l, e := poly.Coefficients(rootKey(t), s)
	if e != api.OK || !slices.Equal(l, []uint64{175427, 105097, 70793, 112706, 39900, 515727, 463947, 139878, 216726}) {
		t.Error(l, e)
	}
	l, e = poly.Coefficients(rootKey(t), scheme(0, 1, api.Group{P: 7, Q: 3, G: 2}))
	if e != api.OK || !slices.Equal(l, []uint64{0, 2}) {
		t.Error(l, e)
	}
}

// someCoefficients returns the coefficients of a polynomial of a scheme; some are 0, some as great as can be.
func someCoefficients(r *rand.Rand, s api.Scheme) []uint64 {
	var l []uint64
	for range s.Degree + 1 {
		l = append(l, []uint64{0, s.Group.Q - 1, r.Uint64() % s.Group.Q}[r.Intn(3)])
	}
	return l
}

func TestValue(t *testing.T) { // P4.1
	r := rand.New(rand.NewSource(2))
	for _, s := range schemes() {
		for range 20 {
			l := someCoefficients(r, s)
			for _, x := range []uint64{0, 1, s.Group.Q - 1, r.Uint64() % s.Group.Q} {
				y, e := poly.Value(s, l, x)
				if e != api.OK || y != valueOf(l, x, s.Group.Q) {
					t.Errorf("%+v, %v, %d: %d, %v", s, l, x, y, e)
				}
			}
		}
	}
}

func TestValueErrors(t *testing.T) { // P4.1, R5
	r := rand.New(rand.NewSource(3))
	for _, s := range schemes() {
		l, q := someCoefficients(r, s), s.Group.Q
		check := func(l []uint64, x uint64) {
			t.Helper()
			if y, e := poly.Value(s, l, x); e != api.ErrArg || y != 0 {
				t.Errorf("%+v, %v, %d: %d, %v", s, l, x, y, e)
			}
		}
		check(nil, 0)
		check(l[:s.Degree], 0)
		check(append(slices.Clone(l), 0), 0)
		check(make([]uint64, 100), 0)
		for _, far := range append(wildNumbers(), q, q+1, 2*q) {
			check(l, far)
			for i := range l {
				wrong := slices.Clone(l)
				wrong[i] = far
				check(wrong, 0)
				check(wrong, 1)
			}
		}
	}
}

func TestValueExamples(t *testing.T) { // P4.1, Examples
	for _, c := range []struct {
		l       []uint64
		x, want uint64
		e       api.Errno
	}{
		{[]uint64{3, 0, 2}, 0, 3, api.OK},
		{[]uint64{3, 0, 2}, 1, 5, api.OK},
		{[]uint64{3, 0, 2}, 4, 2, api.OK},
		{[]uint64{3, 0, 2}, 11, 0, api.ErrArg},
		{[]uint64{3, 0}, 0, 0, api.ErrArg},
	} {
		if y, e := poly.Value(example(), c.l, c.x); y != c.want || e != c.e {
			t.Errorf("%+v: %d, %v", c, y, e)
		}
	}
}

// somePoints returns points with different X, as many as a polynomial has coefficients.
func somePoints(r *rand.Rand, s api.Scheme) []api.Point {
	var l []api.Point
	for len(l) <= s.Degree {
		p := api.Point{X: r.Uint64() % s.Group.Q, Y: r.Uint64() % s.Group.Q}
		switch r.Intn(8) {
		case 0:
			p.X = 0
		case 1:
			p.X = s.Group.Q - 1
		case 2:
			p.Y = 0
		}
		if !slices.ContainsFunc(l, func(other api.Point) bool { return other.X == p.X }) {
			l = append(l, p)
		}
	}
	return l
}

func TestInterpolate(t *testing.T) { // P4.1, P4.6: the points lie on the polynomial
	r := rand.New(rand.NewSource(4))
	for _, s := range schemes() {
		for range 20 {
			points := somePoints(r, s)
			l, e := poly.Interpolate(s, points)
			if e != api.OK || len(l) != s.Degree+1 {
				t.Fatalf("%+v, %v: %v, %v", s, points, l, e)
			}
			for _, p := range points {
				if valueOf(l, p.X, s.Group.Q) != p.Y {
					t.Errorf("%+v, %v: %v", s, points, l)
				}
			}
			if slices.Max(l) >= s.Group.Q {
				t.Errorf("%+v, %v: %v", s, points, l)
			}
		}
	}
}

func TestInterpolateFindsThePolynomial(t *testing.T) { // P4.6
	r := rand.New(rand.NewSource(5))
	for _, s := range schemes() {
		for range 20 {
			want := someCoefficients(r, s)
			points := somePoints(r, s)
			for i := range points {
				points[i].Y = valueOf(want, points[i].X, s.Group.Q)
			}
			l, e := poly.Interpolate(s, points)
			if e != api.OK || !slices.Equal(l, want) {
				t.Errorf("%+v, %v: %v, %v, want %v", s, points, l, e, want)
			}
		}
	}
}

func TestInterpolateErrors(t *testing.T) { // P4.1, R5
	r := rand.New(rand.NewSource(6))
	for _, s := range schemes() {
		points, q := somePoints(r, s), s.Group.Q
		check := func(l []api.Point) {
			t.Helper()
			if c, e := poly.Interpolate(s, l); e != api.ErrArg || len(c) != 0 {
				t.Errorf("%+v, %v: %v, %v", s, l, c, e)
			}
		}
		check(nil)
		check(points[:s.Degree])
		check(slices.Repeat(points, 2))
		var many []api.Point
		for x := range min(q, 1000) {
			many = append(many, api.Point{X: x})
		}
		check(many[:s.Degree+2])
		check(many)
		for i := range points {
			for _, far := range append(wildNumbers(), q, q+1, q+points[0].X) {
				wrong := slices.Clone(points)
				wrong[i].X = far
				check(wrong)
				wrong = slices.Clone(points)
				wrong[i].Y = far
				check(wrong)
			}
			for j := range i {
				wrong := slices.Clone(points)
				wrong[i].X = points[j].X
				check(wrong)
				wrong[i].Y = points[j].Y
				check(wrong)
			}
		}
	}
}

func TestInterpolateExamples(t *testing.T) { // P4.1, Examples
	for _, c := range []struct {
		points []api.Point
		want   []uint64
		e      api.Errno
	}{
		{[]api.Point{{X: 1, Y: 5}, {X: 4, Y: 2}, {X: 0, Y: 3}}, []uint64{3, 0, 2}, api.OK},
		{[]api.Point{{X: 1, Y: 5}, {X: 1, Y: 5}, {X: 0, Y: 3}}, nil, api.ErrArg},
		{[]api.Point{{X: 1, Y: 5}, {X: 4, Y: 2}}, nil, api.ErrArg},
		{[]api.Point{{X: 1}, {X: 4}, {X: 0}}, []uint64{0, 0, 0}, api.OK},
		{[]api.Point{{X: 1, Y: 7}, {X: 4, Y: 7}, {X: 10, Y: 7}}, []uint64{7, 0, 0}, api.OK},
	} {
		if l, e := poly.Interpolate(example(), c.points); !slices.Equal(l, c.want) || e != c.e {
			t.Errorf("%+v: %v, %v", c, l, e)
		}
	}
}

func TestSecret(t *testing.T) { // P4.2
	r := rand.New(rand.NewSource(7))
	for _, s := range schemes() {
		root := random(r)
		f := secretCoefficients(root, s)
		for u := range 1 << s.Depth {
			x := uint64(u + 1)
			want := api.Secret{Receiver: u, Share: api.Point{X: x, Y: valueOf(f, x, s.Group.Q)}}
			if c, e := poly.Secret(root, s, u); e != api.OK || !isSameSecret(c, want) {
				t.Errorf("%+v, %d: %+v, %v", s, u, c, e)
			}
		}
		for _, u := range append(wild(), 1<<s.Depth) {
			if c, e := poly.Secret(root, s, u); e != api.ErrArg || !isSameSecret(c, api.Secret{}) {
				t.Errorf("%+v, %d: %+v, %v", s, u, c, e)
			}
		}
	}
}

func TestFixedSecrets(t *testing.T) { // P4.2, Examples
	s := scheme(6, 8, api.Group{P: 1048343, Q: 524171, G: 1048338})
	for u, want := range map[int]api.Point{0: {X: 1, Y: 267688}, 63: {X: 64, Y: 171445}} {
		if c := secretOf(t, rootKey(t), s, u); c.Share != want {
			t.Errorf("%d: %+v", u, c)
		}
	}
	if c := secretOf(t, rootKey(t), example(), 3); c.Share.X != 4 {
		t.Errorf("%+v", c)
	}
	if _, e := poly.Secret(rootKey(t), example(), 4); e != api.ErrArg {
		t.Error(e)
	}
}
