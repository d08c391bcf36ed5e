package poly

import (
	"slices"

	"headend/api"
	"headend/number"
)

// modulus is a prime of a group. Its methods take numbers below it; products of two of them do not overflow.
type modulus uint64

func (m modulus) plus(a, b uint64) uint64 { return (a + b) % uint64(m) }

func (m modulus) minus(a, b uint64) uint64 { return (a + uint64(m) - b) % uint64(m) }

func (m modulus) product(factors ...uint64) uint64 {
	result := uint64(1)
	for _, f := range factors {
		result = result * f % uint64(m)
	}
	return result
}

func (m modulus) power(base, exponent uint64) uint64 {
	result, _ := number.PowMod(base, exponent, uint64(m))
	return result
}

// over returns the quotient of two numbers; b is not 0.
func (m modulus) over(a, b uint64) uint64 {
	inverse, _ := number.InvMod(b, uint64(m))
	return m.product(a, inverse)
}

// polynomial is a polynomial modulo a prime, with its coefficients from that of x^0 on.
type polynomial struct {
	q            modulus
	coefficients []uint64
}

// isReduced reports whether all coefficients are below the modulus.
func (f polynomial) isReduced() bool {
	return !slices.ContainsFunc(f.coefficients, func(c uint64) bool { return c >= uint64(f.q) })
}

// at returns the value at x.
func (f polynomial) at(x uint64) uint64 {
	value := uint64(0)
	for _, c := range slices.Backward(f.coefficients) {
		value = f.q.plus(f.q.product(value, x), c)
	}
	return value
}

// plus returns the sum of two polynomials that have the same number of coefficients.
func (f polynomial) plus(g polynomial) polynomial {
	sum := polynomial{q: f.q}
	for i, c := range f.coefficients {
		sum.coefficients = append(sum.coefficients, f.q.plus(c, g.coefficients[i]))
	}
	return sum
}

// times returns the product of two polynomials.
func (f polynomial) times(g polynomial) polynomial {
	product := make([]uint64, len(f.coefficients)+len(g.coefficients)-1)
	for i, c := range f.coefficients {
		for j, d := range g.coefficients {
			product[i+j] = f.q.plus(product[i+j], f.q.product(c, d))
		}
	}
	return polynomial{f.q, product}
}

// fold combines polynomials, of which there is at least one, from the first one on.
func fold(l []polynomial, combine func(f, g polynomial) polynomial) polynomial {
	result := l[0]
	for _, g := range l[1:] {
		result = combine(result, g)
	}
	return result
}

// through returns the polynomial on which points lie that have different X.
func (q modulus) through(points []api.Point) polynomial {
	var parts []polynomial
	for j := range points {
		parts = append(parts, q.part(points, j))
	}
	return fold(parts, polynomial.plus)
}

// part returns the polynomial that has the Y of the point j at its X, and 0 at the X of all other points.
func (q modulus) part(points []api.Point, j int) polynomial {
	factors := []polynomial{{q, []uint64{points[j].Y}}}
	for i, p := range points {
		if i != j {
			distance := q.minus(points[j].X, p.X)
			line := []uint64{q.over(q.minus(0, p.X), distance), q.over(1, distance)}
			factors = append(factors, polynomial{q, line})
		}
	}
	return fold(factors, polynomial.times)
}

// weight returns how often the value at the X of the point j counts in the value at 0.
func (q modulus) weight(points []api.Point, j int) uint64 {
	var factors []uint64
	for i, p := range points {
		if i != j {
			factors = append(factors, q.over(p.X, q.minus(p.X, points[j].X)))
		}
	}
	return q.product(factors...)
}
