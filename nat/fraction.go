package nat

import "hustings/api"

// fraction is num divided by den, which have no common divisor above 1.
type fraction struct{ num, den number }

// lowest is num divided by a den that is not 0.
func lowest(num number, den number) fraction {
	g := num.gcd(den)
	return fraction{num.by(g), den.by(g)}
}

// by is n divided by one of its divisors.
func (n number) by(divisor number) number {
	if divisor.isOne() {
		return n
	}
	quotient, _ := n.over(divisor)
	return quotient
}

// frac is the fraction in texts.
func (f fraction) frac() api.Frac { return api.Frac{Num: f.num.text(), Den: f.den.text()} }

// compare is -1, 0 or 1, as f is below g, g itself, or above it.
func (f fraction) compare(g fraction) int {
	return f.num.times(g.den).compare(g.num.times(f.den))
}

// joined is the sum or the difference, as join is that of two numbers.
// What the sum has in common with its denominator it has with what both denominators have in common:
// so no divisor of the long products is looked for.
func (f fraction) joined(g fraction, join func(number, number) number) fraction {
	common := f.den.gcd(g.den)
	fRest, gRest := f.den.by(common), g.den.by(common)
	num := join(f.num.times(gRest), g.num.times(fRest))
	more := num.gcd(common)
	return fraction{num.by(more), fRest.times(g.den.by(more))}
}

// times is the product; here too, divisors are looked for ahead of multiplying.
func (f fraction) times(g fraction) fraction {
	left, right := lowest(f.num, g.den), lowest(g.num, f.den)
	return fraction{left.num.times(right.num), left.den.times(right.den)}
}
