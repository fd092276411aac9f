package long

import "hustings/api"

// Fraction is Num divided by Den, which have no common divisor above 1.
type Fraction struct{ Num, Den Number }

// Lowest is num divided by a den that is not 0.
func Lowest(num Number, den Number) Fraction {
	g := num.Gcd(den)
	return Fraction{num.by(g), den.by(g)}
}

// by is n divided by one of its divisors.
func (n Number) by(divisor Number) Number {
	if divisor.IsOne() {
		return n
	}
	quotient, _ := n.Over(divisor)
	return quotient
}

// Frac is the fraction in texts.
func (f Fraction) Frac() api.Frac { return api.Frac{Num: f.Num.Text(), Den: f.Den.Text()} }

// Compare is -1, 0 or 1, as f is below g, g itself, or above it.
func (f Fraction) Compare(g Fraction) int {
	return f.Num.Times(g.Den).Compare(g.Num.Times(f.Den))
}

// Plus is the sum.
func (f Fraction) Plus(g Fraction) Fraction { return f.joined(g, Number.Plus) }

// Minus is the difference, of a g that is not above f.
func (f Fraction) Minus(g Fraction) Fraction { return f.joined(g, Number.Minus) }

// joined is the sum or the difference, as join is that of two numbers.
// What the sum has in common with its denominator it has with what both denominators have in common:
// so no divisor of the long products is looked for.
func (f Fraction) joined(g Fraction, join func(Number, Number) Number) Fraction {
	common := f.Den.Gcd(g.Den)
	fRest, gRest := f.Den.by(common), g.Den.by(common)
	num := join(f.Num.Times(gRest), g.Num.Times(fRest))
	more := num.Gcd(common)
	return Fraction{num.by(more), fRest.Times(g.Den.by(more))}
}

// Times is the product; here too, divisors are looked for ahead of multiplying.
func (f Fraction) Times(g Fraction) Fraction {
	left, right := Lowest(f.Num, g.Den), Lowest(g.Num, f.Den)
	return Fraction{left.Num.Times(right.Num), left.Den.Times(right.Den)}
}
