package long

import "slices"

// Over divides by a d that is not 0, as on paper, limb by limb; rest is what is left.
func (n Number) Over(d Number) (quotient Number, rest Number) {
	if n.Compare(d) < 0 {
		return nil, slices.Clone(n)
	}
	if len(d) == 1 {
		quotient, left := n.overLimb(d[0])
		return quotient, Number{left}.trimmed()
	}
	// With a divisor whose highest limb is half the base or more a guess is hardly ever wrong.
	scale := base / (d[len(d)-1] + 1)
	rest = n.scaled(scale)
	d = d.scaled(scale).trimmed()
	quotient = make(Number, len(n)-len(d)+1)
	for i := len(quotient) - 1; i >= 0; i-- {
		part := rest[i : i+len(d)+1]
		quotient[i] = part.guess(d)
		if part.put(d, -quotient[i]) < 0 {
			part.put(d, 1)
			quotient[i]--
		}
	}
	rest, _ = rest.trimmed().overLimb(scale)
	return quotient.trimmed(), rest
}

// guess is how many times d is in n, or one more; n is below d times base, and one limb longer than d.
func (n Number) guess(d Number) int64 {
	top := len(d)
	first, second := d[top-1], d[top-2]
	two := n[top]*base + n[top-1]
	q, left := two/first, two%first
	for q*second > left*base+n[top-2] {
		q--
		left += first
	}
	return q
}

// overLimb divides by a single limb that is not 0.
func (n Number) overLimb(d int64) (quotient Number, rest int64) {
	quotient = make(Number, len(n))
	for i := len(n) - 1; i >= 0; i-- {
		rest = rest*base + n[i]
		quotient[i] = rest / d
		rest %= d
	}
	return quotient.trimmed(), rest
}

// scaled is n times a limb, with one limb more than n has, be it 0.
func (n Number) scaled(by int64) Number {
	product := make(Number, len(n)+1)
	product.put(n, by)
	return product
}

// Without is n, divided by a d above 1 as often as that leaves no rest. It tries d, then its square, the square of that, and so
// on, as long as they divide what is left; on the way back each of them can divide it but once more.
func (n Number) Without(d Number) Number {
	if len(d) > len(n) {
		return n
	}
	quotient, rest := n.Over(d)
	if !rest.IsZero() {
		return n
	}
	left := quotient.Without(d.Times(d))
	if last, rest := left.Over(d); rest.IsZero() {
		return last
	}
	return left
}
