package long

// Gcd is the greatest number that divides both.
// It goes Euclid's way, many steps at once while the numbers are long (Lehmer's way): their first digits
// tell for certain what the next steps are, and the long numbers are gone through but once for all of these.
func (n Number) Gcd(o Number) Number {
	if n.Compare(o) < 0 {
		n, o = o, n
	}
	for len(o) > 2 {
		high, low := sureSteps(n, o)
		if high.y == 0 { // no step was sure
			_, rest := n.Over(o)
			n, o = o, rest
			continue
		}
		n, o = high.of(n, o), low.of(n, o)
	}
	if o.IsZero() {
		return n
	}
	_, rest := n.Over(o)
	return gcdOfShort(o, rest)
}

// gcdOfShort is the same of numbers of at most two limbs.
func gcdOfShort(n Number, o Number) Number {
	a, b := n.short(), o.short()
	for b != 0 {
		a, b = b, a%b
	}
	return Number{a % base, a / base}.trimmed()
}

// short is the value of a number of at most two limbs.
func (n Number) short() int64 { return n.limb(1)*base + n.limb(0) }

// row is a number on Euclid's way: x times the greater of two numbers and y times the lesser one (x or y is not above 0).
// head is what it would be if both of them ended behind their first digits. x and y of a row that is sure are not above base.
type row struct{ head, x, y int64 }

// sureSteps goes Euclid's way as far as the first digits of n and o, not above n, tell it for certain,
// and answers the last two rows.
func sureSteps(n Number, o Number) (high row, low row) {
	a, b := heads(n, o)
	high, low = row{a, 1, 0}, row{b, 0, 1}
	for low.head > 0 {
		next := high.less(low, high.head/low.head)
		if !next.surelyBelow(low) {
			break
		}
		high, low = low, next
	}
	return high, low
}

// heads is the first 18 digits of n, of at least three limbs, and what o has in the same places.
func heads(n Number, o Number) (int64, int64) {
	top := len(n) - 1
	scale := int64(1)
	for n[top]*scale < base/10 {
		scale *= 10
	}
	head := func(m Number) int64 {
		return (m.limb(top)*base+m.limb(top-1))*scale + m.limb(top-2)/(base/scale)
	}
	return head(n), head(o)
}

// less is r without so many times s.
func (r row) less(s row, times int64) row {
	return row{r.head - times*s.head, r.x - times*s.x, r.y - times*s.y}
}

// surelyBelow tells whether r is not below 0, and below s, the row ahead of it, whatever digits follow the first ones.
// These are worth less than 1 each time that a number is taken off, and the lesser one is taken off as often as the greater, or more often.
func (r row) surelyBelow(s row) bool {
	return r.head >= abs(r.y) && s.head-r.head >= abs(s.y-r.y)
}

// of is the row's number. If it falls below 0 on the way, it turns round, and back again.
func (r row) of(n Number, o Number) Number {
	sum := make(Number, len(n))
	sum.put(n, r.x)
	sum.put(o, r.y)
	return sum.trimmed()
}

func abs(v int64) int64 { return max(v, -v) }
