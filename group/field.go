package group

import "math/bits"

// field is the numbers modulo a prime, and what they are multiplied with (Montgomery's way: no division).
// A number is WITHIN when it is multiplied by 2^(64 words), modulo the prime: joined keeps numbers there.
type field struct {
	words   int    // so many of a number are used
	modulus number // the prime, below a half of what so many words hold
	low     uint64 // the prime times low ends in a word of ones
	one     number // 1, within
	square  number // what 1 within is when it is brought within once more
}

// plus is the sum of two numbers below the prime.
func (f *field) plus(a, b number) number { return f.below(a.plus(b)) }

// minus is the difference of two numbers below the prime.
func (f *field) minus(a, b number) number {
	d, borrow := a.minus(b)
	if borrow == 1 {
		d = d.plus(f.modulus)
	}
	return d
}

// times is the product of two numbers.
func (f *field) times(a, b number) number { return f.joined(f.enter(a), b) }

// inverse is the number whose product with a is 1, if a is not 0: the power by what is two less than the prime.
func (f *field) inverse(a number) number {
	n, _ := f.modulus.minus(number{2})
	return f.powers([]number{a}, []number{n})
}

// number is a small number modulo the prime: a negative one is what is missing of it to 0.
func (f *field) number(n int) number {
	if n < 0 {
		// Of the least int there is no negative one, but as a word there is.
		return f.minus(number{}, f.joined(number{-uint64(n)}, f.one))
	}
	return f.joined(number{uint64(n)}, f.one)
}

// reduce is bytes as a number, however many there are: each piece is of as many words as a number here.
func (f *field) reduce(b string) number {
	var sum number
	size := f.words * wordSize
	from := 0
	for to := len(b) % size; to <= len(b); to += size {
		piece := numberOf(b[from:to])
		sum = f.plus(f.joined(sum, f.square), f.joined(piece, f.one))
		from = to
	}
	return sum
}

// powers is the product of the powers of each a by its n. All of them share the squares.
func (f *field) powers(a []number, n []number) number {
	tables := make([][]number, len(a))
	top := 0
	for i := range a {
		tables[i] = f.table(f.enter(a[i]), n[i])
		top = max(top, n[i].digits())
	}
	out := f.one
	for place := top - 1; place >= 0; place-- {
		if place < top-1 {
			for range digitSize {
				out = f.joined(out, out)
			}
		}
		for i := range tables {
			if d := n[i].digit(place); d > 0 {
				out = f.joined(out, tables[i][d])
			}
		}
	}
	return f.leave(out)
}

// table is the powers of a, within, by 0 and so on up to the greatest digit of n: small numbers need few.
func (f *field) table(a number, n number) []number {
	most := 0
	for place := range n.digits() {
		most = max(most, n.digit(place))
	}
	out := make([]number, 1, mostDigit+1)
	out[0] = f.one
	for d := range most {
		out = append(out, f.joined(out[d], a))
	}
	return out
}

// enter brings a number within.
func (f *field) enter(a number) number { return f.joined(a, f.square) }

// leave is the number that is a within.
func (f *field) leave(a number) number { return f.joined(a, number{1}) }

// joined is the product of a and b, divided by 2^(64 words): of two numbers within it is their product, within.
// b is below the prime; a has no more words than are used. Word by word of a, x b is added to the sum, and as many primes
// as make the sum's lowest word 0, which then falls off: it stays below twice the prime, so that no carry is lost.
func (f *field) joined(a, b number) number {
	var sum number
	for i := range f.words {
		x := a[i]
		y := (sum[0] + x*b[0]) * f.low
		left, word := chain(x, b[0], sum[0], 0)
		right, _ := chain(y, f.modulus[0], word, 0)
		for j := 1; j < f.words; j++ {
			left, word = chain(x, b[j], sum[j], left)
			right, sum[j-1] = chain(y, f.modulus[j], word, right)
		}
		sum[f.words-1] = left + right
	}
	return f.below(sum)
}

// below is a number that is less than twice the prime, modulo the prime.
func (f *field) below(a number) number {
	d, borrow := a.minus(f.modulus)
	if borrow == 1 {
		return a
	}
	return d
}

// chain is x y + a + b, its upper and its lower word.
func chain(x, y, a, b uint64) (uint64, uint64) {
	high, low := bits.Mul64(x, y)
	low, carry := bits.Add64(low, a, 0)
	high += carry
	low, carry = bits.Add64(low, b, 0)
	return high + carry, low
}
