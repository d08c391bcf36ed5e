package number_test

import (
	"math/big"
	"math/rand"
	"testing"

	"headend/api"
	"headend/number"
)

// badFractions returns fractions that are not valid.
func badFractions() []api.Fraction {
	one := api.Natural{1}
	l := []api.Fraction{
		{},
		{Num: one},
		{Den: api.Natural{2}},
		{Den: greatest()},
		{Num: api.Natural{2}, Den: api.Natural{4}},
		{Num: api.Natural{2}, Den: api.Natural{2}},
		{Num: api.Natural{6}, Den: api.Natural{3}},
		{Num: powerOfTwo(511), Den: powerOfTwo(1)},
	}
	for _, a := range invalid() {
		l = append(l, api.Fraction{Num: a, Den: one}, api.Fraction{Num: one, Den: a}, api.Fraction{Num: a, Den: a})
	}
	return l
}

// goodFractions returns valid fractions at the edges.
func goodFractions() []api.Fraction {
	one := api.Natural{1}
	return []api.Fraction{
		{Den: one},
		{Num: one, Den: one},
		{Num: one, Den: api.Natural{2}},
		{Num: api.Natural{2}, Den: api.Natural{3}},
		{Num: api.Natural{3}, Den: api.Natural{2}},
		{Num: greatest(), Den: one},
		{Num: one, Den: greatest()},
		{Num: one, Den: powerOfTwo(511)},
		{Num: powerOfTwo(511), Den: one},
		{Num: powerOfTwo(511), Den: greatest()},
		{Num: greatest(), Den: powerOfTwo(511)},
		{Num: powerOfTwo(256), Den: repeated(top, 8)},
	}
}

func randomFraction(t *testing.T, r *rand.Rand, digits int) api.Fraction {
	t.Helper()
	den := random(r, digits)
	if len(den) == 0 {
		den = number.Of(1)
	}
	f, e := number.Ratio(random(r, digits), den)
	fails(t, e, api.OK)
	return f
}

// toRat returns the rational number of a fraction whose Den is not 0.
func toRat(f api.Fraction) *big.Rat { return new(big.Rat).SetFrac(toBig(f.Num), toBig(f.Den)) }

func TestRatio(t *testing.T) { // P1.4, P1.9
	r := rand.New(rand.NewSource(4))
	numbers := edges()
	for range 60 {
		numbers = append(numbers, random(r, 16))
	}
	for _, num := range numbers {
		for _, den := range numbers {
			f, e := number.Ratio(num, den)
			if len(den) == 0 {
				fails(t, e, api.ErrZero, num, den)
				if !sameFraction(f, api.Fraction{}) {
					t.Error(f)
				}
				continue
			}
			isFraction(t, f, e, new(big.Rat).SetFrac(toBig(num), toBig(den)), "Ratio", num, den)
			fails(t, number.CheckFraction(f), api.OK, f)
		}
	}
	for _, bad := range invalid() {
		for _, x := range [][2]api.Natural{{bad, nil}, {nil, bad}, {bad, {1}}, {{1}, bad}, {bad, bad}} {
			f, e := number.Ratio(x[0], x[1])
			fails(t, e, api.ErrBad, x)
			if !sameFraction(f, api.Fraction{}) {
				t.Error(f)
			}
		}
	}
}

func TestCheckFraction(t *testing.T) { // P1.4
	for _, f := range goodFractions() {
		fails(t, number.CheckFraction(f), api.OK, f)
	}
	for _, f := range badFractions() {
		fails(t, number.CheckFraction(f), api.ErrBad, f)
	}
	for num := range uint64(40) {
		for den := range uint64(40) {
			want := api.ErrBad
			if new(big.Int).GCD(nil, nil, toBig(number.Of(num)), toBig(number.Of(den))).Cmp(big.NewInt(1)) == 0 && den > 0 {
				want = api.OK
			}
			fails(t, number.CheckFraction(api.Fraction{Num: number.Of(num), Den: number.Of(den)}), want, num, den)
		}
	}
}

func TestInvalidFractionsComeFirst(t *testing.T) { // P1.4, R1, R2
	one := api.Fraction{Num: api.Natural{1}, Den: api.Natural{1}}
	for _, bad := range badFractions() {
		for _, x := range [][2]api.Fraction{{bad, one}, {one, bad}, {bad, bad}, {{Num: api.Natural{1}, Den: greatest()}, bad}} {
			order, e := number.CompareFractions(x[0], x[1])
			fails(t, e, api.ErrBad, x)
			sum, e := number.AddFractions(x[0], x[1])
			fails(t, e, api.ErrBad, x)
			product, e := number.MulFractions(x[0], x[1])
			fails(t, e, api.ErrBad, x)
			if order != 0 || !sameFraction(sum, api.Fraction{}) || !sameFraction(product, api.Fraction{}) {
				t.Error(x, order, sum, product)
			}
		}
	}
}

// checkFractions holds the functions of two fractions against those of math/big.
func checkFractions(t *testing.T, f, g api.Fraction) {
	t.Helper()
	x, y := toRat(f), toRat(g)
	order, e := number.CompareFractions(f, g)
	fails(t, e, api.OK, "Compare", f, g)
	if order != x.Cmp(y) {
		t.Error("Compare", f, g, order)
	}
	h, e := number.AddFractions(f, g)
	isFraction(t, h, e, new(big.Rat).Add(x, y), "Add", f, g)
	h, e = number.MulFractions(f, g)
	isFraction(t, h, e, new(big.Rat).Mul(x, y), "Mul", f, g)
}

func TestFractions(t *testing.T) { // P1.4, P1.9
	for _, f := range goodFractions() {
		for _, g := range goodFractions() {
			checkFractions(t, f, g)
		}
	}
	r := rand.New(rand.NewSource(5))
	for range 1500 {
		for _, digits := range []int{1, 7, 8, 9, 16} {
			f, g := randomFraction(t, r, digits), randomFraction(t, r, digits)
			checkFractions(t, f, g)
			checkFractions(t, f, f)
		}
	}
}

func TestPartsThatAreTooLargeOnlyBeforeReducing(t *testing.T) { // P1.4
	most := greatest()
	f := api.Fraction{Num: powerOfTwo(511), Den: most}
	g := api.Fraction{Num: most, Den: powerOfTwo(511)}
	h, e := number.MulFractions(f, g)
	isFraction(t, h, e, big.NewRat(1, 1), "Mul")
	part := api.Fraction{Num: number.Of(1), Den: most}
	h, e = number.AddFractions(part, part)
	isFraction(t, h, e, new(big.Rat).SetFrac(big.NewInt(2), toBig(most)), "Add")
	_, e = number.AddFractions(part, fraction(t, 1, 2))
	fails(t, e, api.ErrMany)
	_, e = number.AddFractions(api.Fraction{Num: most, Den: number.Of(1)}, fraction(t, 1, 1))
	fails(t, e, api.ErrMany)
}

func TestFractionExamples(t *testing.T) { // the table of examples, and the first example of the whole
	if f := fraction(t, 6, 4); !sameFraction(f, api.Fraction{Num: api.Natural{3}, Den: api.Natural{2}}) {
		t.Error(f)
	}
	if f := fraction(t, 0, 9); !sameFraction(f, api.Fraction{Den: api.Natural{1}}) {
		t.Error(f)
	}
	_, e := number.Ratio(number.Of(1), nil)
	fails(t, e, api.ErrZero)
	f, e := number.AddFractions(fraction(t, 1, 2), fraction(t, 1, 3))
	isFraction(t, f, e, big.NewRat(5, 6))
	f, e = number.MulFractions(fraction(t, 2, 3), fraction(t, 3, 4))
	isFraction(t, f, e, big.NewRat(1, 2))
	order, e := number.CompareFractions(fraction(t, 1, 3), fraction(t, 2, 5))
	fails(t, e, api.OK)
	if order != -1 {
		t.Error(order)
	}
}
