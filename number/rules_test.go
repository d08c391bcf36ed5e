package number_test

import (
	"math/rand"
	"slices"
	"testing"

	"headend/api"
	"headend/number"
)

// calls returns all functions that take natural numbers or fractions, as functions of up to four numbers: two numbers, or two fractions. Their results are lists of numbers.
func calls() map[string]func(x [4]api.Natural) ([]api.Natural, api.Errno) {
	one := func(f func(a, b api.Natural) (api.Natural, api.Errno)) func(x [4]api.Natural) ([]api.Natural, api.Errno) {
		return func(x [4]api.Natural) ([]api.Natural, api.Errno) {
			a, e := f(x[0], x[1])
			return []api.Natural{a}, e
		}
	}
	two := func(f func(f, g api.Fraction) (api.Fraction, api.Errno)) func(x [4]api.Natural) ([]api.Natural, api.Errno) {
		return func(x [4]api.Natural) ([]api.Natural, api.Errno) {
			h, e := f(api.Fraction{Num: x[0], Den: x[1]}, api.Fraction{Num: x[2], Den: x[3]})
			return []api.Natural{h.Num, h.Den}, e
		}
	}
	return map[string]func(x [4]api.Natural) ([]api.Natural, api.Errno){
		"Add": one(number.Add),
		"Sub": one(number.Sub),
		"Mul": one(number.Mul),
		"Gcd": one(number.Gcd),
		"Div": func(x [4]api.Natural) ([]api.Natural, api.Errno) {
			q, r, e := number.Div(x[0], x[1])
			return []api.Natural{q, r}, e
		},
		"Ratio": func(x [4]api.Natural) ([]api.Natural, api.Errno) {
			f, e := number.Ratio(x[0], x[1])
			return []api.Natural{f.Num, f.Den}, e
		},
		"AddFractions": two(number.AddFractions),
		"MulFractions": two(number.MulFractions),
		"others": func(x [4]api.Natural) ([]api.Natural, api.Errno) {
			f, g := api.Fraction{Num: x[0], Den: x[1]}, api.Fraction{Num: x[2], Den: x[3]}
			number.Check(x[0])
			number.Text(x[0])
			number.Compare(x[0], x[1])
			number.CheckFraction(f)
			number.CompareFractions(f, g)
			return nil, api.OK
		},
	}
}

// spare returns a copy of a number, with memory behind its length, and all of this memory.
func spare(a api.Natural) (number, memory api.Natural) {
	memory = append(slices.Clone(a), 11, 12, 13, 14, 15)
	return memory[:len(a)], memory
}

// arguments returns arguments for a call: valid numbers, valid fractions, or anything.
func arguments(t *testing.T, r *rand.Rand) [4]api.Natural {
	t.Helper()
	f, g := randomFraction(t, r, 8), randomFraction(t, r, 8)
	bad := invalid()
	switch r.Intn(5) {
	case 0:
		return [4]api.Natural{random(r, 16), random(r, 16), nil, nil}
	case 1:
		return [4]api.Natural{random(r, 16), nil, random(r, 16), bad[r.Intn(len(bad))]}
	case 2:
		return [4]api.Natural{bad[r.Intn(len(bad))], random(r, 20), random(r, 20), random(r, 20)}
	case 3:
		return [4]api.Natural{nil, {1}, random(r, 16), {1}}
	default:
		return [4]api.Natural{f.Num, f.Den, g.Num, g.Den}
	}
}

func TestMemory(t *testing.T) { // R3
	r := rand.New(rand.NewSource(8))
	for name, call := range calls() {
		for range 400 {
			var given, memory, before [4]api.Natural
			for i, a := range arguments(t, r) {
				given[i], memory[i] = spare(a)
				before[i] = slices.Clone(memory[i])
			}
			results, e := call(given)
			again, second := call(given)
			same := func() bool {
				return slices.EqualFunc(memory[:], before[:], slices.Equal[api.Natural])
			}
			if e != second || !slices.EqualFunc(results, again, slices.Equal[api.Natural]) {
				t.Fatal(name, "two calls differ", given)
			}
			if !same() {
				t.Fatal(name, "changed an argument", given)
			}
			for i, a := range results {
				others := slices.Concat(again, results[:i], results[i+1:])
				values := slices.Concat(others...)
				overwrite(a)
				if !same() || !slices.Equal(values, slices.Concat(others...)) {
					t.Fatal(name, "shares memory", given)
				}
			}
		}
	}
}

// overwrite changes all memory of a number, up to its capacity.
func overwrite(a api.Natural) {
	a = a[:cap(a)]
	for i := range a {
		a[i] ^= 0x5a5a5a5a
	}
}

func TestResultsAreValidOrZero(t *testing.T) { // R2, R7, P1.9
	r := rand.New(rand.NewSource(9))
	for name, call := range calls() {
		for range 1000 {
			x := arguments(t, r)
			results, e := call(x)
			for _, a := range results {
				if number.Check(a) != api.OK || e != api.OK && len(a) != 0 {
					t.Fatal(name, x, a, e)
				}
			}
		}
	}
}

func TestNilIsEmpty(t *testing.T) { // R4
	for name, call := range calls() {
		full := api.Natural{6}
		for _, x := range [][2][4]api.Natural{
			{{nil, nil, nil, nil}, {{}, {}, {}, {}}},
			{{nil, full, nil, full}, {{}, full, {}, full}},
			{{full, nil, full, nil}, {full, {}, full, {}}},
			{{nil, {1}, nil, {1}}, {{}, {1}, {}, {1}}},
		} {
			a, e := call(x[0])
			b, second := call(x[1])
			if e != second || !slices.EqualFunc(a, b, slices.Equal[api.Natural]) {
				t.Error(name, x, a, e, b, second)
			}
		}
	}
}

func TestResultsOfSmallCallsShareNothing(t *testing.T) { // R3
	for n := range uint64(3) {
		a, b := number.Of(n), number.Of(n)
		overwrite(a)
		if !slices.Equal(b, number.Of(n)) {
			t.Error("Of", n)
		}
	}
	a, _ := number.Parse("123")
	overwrite(a)
	if b, e := number.Parse("123"); e != api.OK || !slices.Equal(b, api.Natural{123}) {
		t.Error("Parse", b, e)
	}
}
