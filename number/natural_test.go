package number_test

import (
	"math"
	"math/big"
	"math/rand"
	"slices"
	"strings"
	"testing"

	"headend/api"
	"headend/number"
)

func TestOf(t *testing.T) { // P1.1
	for n, want := range map[uint64]api.Natural{
		0:              {},
		7:              {7},
		top:            {top},
		1 << 32:        {0, 1},
		1<<32 + 5:      {5, 1},
		math.MaxUint64: {top, top},
	} {
		if a := number.Of(n); !slices.Equal(a, want) || number.Check(a) != api.OK {
			t.Error(n, a)
		}
	}
}

func TestCheck(t *testing.T) { // P1.1
	for _, a := range edges() {
		fails(t, number.Check(a), api.OK, a)
	}
	for _, a := range invalid() {
		fails(t, number.Check(a), api.ErrBad, a)
	}
}

func TestInvalidNumbersComeFirst(t *testing.T) { // P1.1, R1, R2
	for _, bad := range invalid() {
		for _, x := range [][2]api.Natural{{bad, nil}, {nil, bad}, {bad, {1}}, {{1}, bad}, {greatest(), bad}, {bad, bad}} {
			a, b := x[0], x[1]
			for name, f := range map[string]func(a, b api.Natural) (api.Natural, api.Errno){
				"Add": number.Add, "Sub": number.Sub, "Mul": number.Mul, "Gcd": number.Gcd,
			} {
				c, e := f(a, b)
				fails(t, e, api.ErrBad, name, a, b)
				if len(c) != 0 {
					t.Error(name, a, b, c)
				}
			}
			q, r, e := number.Div(a, b)
			fails(t, e, api.ErrBad, "Div", a, b)
			if len(q) != 0 || len(r) != 0 {
				t.Error(q, r)
			}
			order, e := number.Compare(a, b)
			fails(t, e, api.ErrBad, "Compare", a, b)
			if order != 0 {
				t.Error(order)
			}
		}
		s, e := number.Text(bad)
		fails(t, e, api.ErrBad, "Text", bad)
		if s != "" {
			t.Error(s)
		}
	}
}

// checkNatural holds the functions of two numbers against those of math/big.
func checkNatural(t *testing.T, a, b api.Natural) {
	t.Helper()
	x, y := toBig(a), toBig(b)
	order, e := number.Compare(a, b)
	fails(t, e, api.OK, "Compare", a, b)
	if order != x.Cmp(y) {
		t.Error("Compare", a, b, order)
	}
	c, e := number.Add(a, b)
	is(t, c, e, new(big.Int).Add(x, y), "Add", a, b)
	c, e = number.Mul(a, b)
	is(t, c, e, new(big.Int).Mul(x, y), "Mul", a, b)
	c, e = number.Gcd(a, b)
	is(t, c, e, new(big.Int).GCD(nil, nil, x, y), "Gcd", a, b)
	c, e = number.Sub(a, b)
	if x.Cmp(y) < 0 {
		fails(t, e, api.ErrLess, "Sub", a, b)
		if len(c) != 0 {
			t.Error("Sub", a, b, c)
		}
	} else {
		is(t, c, e, new(big.Int).Sub(x, y), "Sub", a, b)
	}
	q, r, e := number.Div(a, b)
	if y.Sign() == 0 {
		fails(t, e, api.ErrZero, "Div", a, b)
		if len(q) != 0 || len(r) != 0 {
			t.Error("Div", a, b, q, r)
		}
		return
	}
	wantQ, wantR := new(big.Int).QuoRem(x, y, new(big.Int))
	is(t, q, e, wantQ, "Div", a, b)
	is(t, r, e, wantR, "Div, the rest", a, b)
}

func TestNaturalAtEdges(t *testing.T) { // P1.1, P1.2
	for _, a := range edges() {
		for _, b := range edges() {
			checkNatural(t, a, b)
		}
	}
}

func TestNaturalAtRandom(t *testing.T) { // P1.1, P1.2
	r := rand.New(rand.NewSource(1))
	for range 20000 {
		checkNatural(t, random(r, 16), random(r, 16))
		checkNatural(t, random(r, 16), random(r, 3))
	}
}

func TestNaturalExamples(t *testing.T) { // the table of examples
	type call func(a, b api.Natural) (api.Natural, api.Errno)
	quotient := func(a, b api.Natural) (api.Natural, api.Errno) {
		q, _, e := number.Div(a, b)
		return q, e
	}
	rest := func(a, b api.Natural) (api.Natural, api.Errno) {
		_, r, e := number.Div(a, b)
		return r, e
	}
	for i, x := range []struct {
		f    call
		a, b api.Natural
		want api.Natural
		e    api.Errno
	}{
		{number.Add, number.Of(top), number.Of(1), api.Natural{0, 1}, api.OK},
		{number.Sub, number.Of(1 << 32), number.Of(1), api.Natural{top}, api.OK},
		{number.Sub, number.Of(1), number.Of(2), nil, api.ErrLess},
		{number.Mul, number.Of(1 << 32), number.Of(1 << 32), api.Natural{0, 0, 1}, api.OK},
		{number.Add, greatest(), number.Of(1), nil, api.ErrMany},
		{number.Add, greatest(), nil, greatest(), api.OK},
		{number.Mul, powerOfTwo(256), powerOfTwo(256), nil, api.ErrMany},
		{number.Mul, powerOfTwo(256), powerOfTwo(255), powerOfTwo(511), api.OK},
		{quotient, number.Of(100), number.Of(7), api.Natural{14}, api.OK},
		{rest, number.Of(100), number.Of(7), api.Natural{2}, api.OK},
		{quotient, number.Of(7), nil, nil, api.ErrZero},
		{number.Gcd, number.Of(12), number.Of(18), api.Natural{6}, api.OK},
		{number.Gcd, nil, number.Of(5), api.Natural{5}, api.OK},
		{number.Gcd, number.Of(5), nil, api.Natural{5}, api.OK},
		{number.Gcd, nil, nil, nil, api.OK},
	} {
		c, e := x.f(x.a, x.b)
		fails(t, e, x.e, i)
		if !slices.Equal(c, x.want) {
			t.Error(i, c)
		}
	}
}

// must returns the result of a call that has no error.
func must(t *testing.T) func(a api.Natural, e api.Errno) api.Natural {
	return func(a api.Natural, e api.Errno) api.Natural {
		t.Helper()
		fails(t, e, api.OK)
		return a
	}
}

func TestLawsOfNumbers(t *testing.T) { // P1.7
	r := rand.New(rand.NewSource(2))
	ok := must(t)
	for range 3000 {
		a, b, c := random(r, 7), random(r, 7), random(r, 7)
		sum := ok(number.Add(a, b))
		if !slices.Equal(sum, ok(number.Add(b, a))) || !slices.Equal(ok(number.Mul(a, b)), ok(number.Mul(b, a))) {
			t.Error("the order", a, b)
		}
		if !slices.Equal(ok(number.Sub(sum, a)), b) || !slices.Equal(ok(number.Sub(sum, b)), a) {
			t.Error("the difference", a, b)
		}
		if !slices.Equal(ok(number.Mul(sum, c)), ok(number.Add(ok(number.Mul(a, c)), ok(number.Mul(b, c))))) {
			t.Error("products over sums", a, b, c)
		}
		if len(b) == 0 {
			continue
		}
		q, rest, e := number.Div(a, b)
		fails(t, e, api.OK)
		if order, _ := number.Compare(rest, b); order != -1 || !slices.Equal(ok(number.Add(ok(number.Mul(q, b)), rest)), a) {
			t.Error("the quotient", a, b, q, rest)
		}
		checkDivisor(t, ok(number.Mul(a, c)), ok(number.Mul(b, c)))
	}
}

// checkDivisor checks that the greatest common divisor divides two numbers, and that their quotients have none above 1.
func checkDivisor(t *testing.T, a, b api.Natural) {
	t.Helper()
	if len(b) == 0 {
		return
	}
	divisor := must(t)(number.Gcd(a, b))
	p, rest, _ := number.Div(a, divisor)
	q, more, _ := number.Div(b, divisor)
	if len(rest) != 0 || len(more) != 0 || !slices.Equal(must(t)(number.Gcd(p, q)), number.Of(1)) {
		t.Error("the divisor", a, b, divisor)
	}
}

func TestText(t *testing.T) { // P1.3, P1.8
	r := rand.New(rand.NewSource(3))
	numbers := edges()
	for range 1000 {
		numbers = append(numbers, random(r, 16))
	}
	for ten := big.NewInt(1); ten.BitLen() <= 512; ten.Mul(ten, big.NewInt(10)) {
		numbers = append(numbers, fromBig(ten), fromBig(new(big.Int).Sub(ten, big.NewInt(1))))
	}
	for _, a := range numbers {
		s, e := number.Text(a)
		fails(t, e, api.OK, a)
		if s != toBig(a).String() {
			t.Error(a, s)
		}
		b, e := number.Parse(s)
		fails(t, e, api.OK, s)
		if !slices.Equal(a, b) {
			t.Error(a, s, b)
		}
	}
	if s, _ := number.Text(powerOfTwo(64)); s != "18446744073709551616" {
		t.Error(s)
	}
}

func TestParse(t *testing.T) { // P1.3, P1.8
	most := toBig(greatest()).String()
	for _, s := range []string{"0", "1", "9", "10", "4294967295", "4294967296", "18446744073709551616", most} {
		a, e := number.Parse(s)
		fails(t, e, api.OK, s)
		back, e := number.Text(a)
		fails(t, e, api.OK, s)
		if back != s || number.Check(a) != api.OK {
			t.Error(s, back)
		}
	}
	for _, s := range []string{"", "00", "01", "-1", "-0", "+1", " ", " 1", "1 ", "1a", "a", "0x1", "1_0", "1.0", "1e3", "/", ":", "1/", "1:", "\x00", "1\x00", "\xff", "\u0661", "\uff11", "0" + most, most + "0-", strings.Repeat("9", 1000) + "x"} {
		checkParseError(t, s, api.ErrForm)
	}
	over := new(big.Int).Add(toBig(greatest()), big.NewInt(1)).String()
	for _, s := range []string{over, most + "0", "1" + strings.Repeat("0", 155), strings.Repeat("9", 155), strings.Repeat("9", 1<<20)} {
		checkParseError(t, s, api.ErrMany)
	}
}

func checkParseError(t *testing.T, s string, want api.Errno) {
	t.Helper()
	a, e := number.Parse(s)
	if e != want || len(a) != 0 {
		t.Errorf("%.40q: %v %v", s, a, e)
	}
}
