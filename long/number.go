// Package long: numbers of any length, and fractions of them. Layers whose numbers outgrow what chapter 2 lets in reckon with
// these; but where texts are read, nothing is asked here of what comes in.
package long

import (
	"cmp"
	"slices"
	"strings"
)

// Number is a number of any length: nine digits in each limb, the lowest limb first, the highest not 0.
// Ten is at the root of the base, so that texts are read and written in one go.
// A signed limb can hold the product of two limbs, negative too, and what is carried.
type Number []int64

const (
	base       = 1_000_000_000
	limbDigits = 9
)

// Small is the number that n, not below 0 and below the base, is.
func Small(n int) Number { return Number{int64(n)}.trimmed() }

// Of is the number that digits are.
func Of(digits string) Number {
	n := make(Number, 0, len(digits)/limbDigits+1)
	for end := len(digits); end > 0; end -= limbDigits {
		limb := int64(0)
		for i := max(0, end-limbDigits); i < end; i++ {
			limb = limb*10 + int64(digits[i]-'0')
		}
		n = append(n, limb)
	}
	return n.trimmed()
}

// TenTo is 1 with so many zeros behind it.
func TenTo(zeros int) Number { return Of("1" + strings.Repeat("0", zeros)) }

// Text is the number's digits.
func (n Number) Text() string {
	if n.IsZero() {
		return "0"
	}
	digits := make([]byte, limbDigits*len(n))
	at := len(digits)
	for _, limb := range n {
		for range limbDigits {
			at--
			digits[at] = '0' + byte(limb%10)
			limb /= 10
		}
	}
	return strings.TrimLeft(string(digits), "0")
}

// trimmed is the number without zeros ahead of it.
func (n Number) trimmed() Number {
	for len(n) > 0 && n[len(n)-1] == 0 {
		n = n[:len(n)-1]
	}
	return n
}

func (n Number) IsZero() bool { return len(n) == 0 }

func (n Number) IsOne() bool { return len(n) == 1 && n[0] == 1 }

// limb is one of the limbs; beyond the highest all are 0.
func (n Number) limb(i int) int64 {
	if i < len(n) {
		return n[i]
	}
	return 0
}

// Compare is -1, 0 or 1, as n is below o, o itself, or above it.
func (n Number) Compare(o Number) int {
	if len(n) != len(o) {
		return cmp.Compare(len(n), len(o))
	}
	for i := len(n) - 1; i >= 0; i-- {
		if n[i] != o[i] {
			return cmp.Compare(n[i], o[i])
		}
	}
	return 0
}

// put adds o to n itself, so many times, from -base to base, as far as n has limbs.
// It answers what is carried out of them: it is below 0, if n fell below 0 and turned round.
func (n Number) put(o Number, times int64) int64 {
	carry := int64(0)
	for i := range n {
		sum := n[i] + times*o.limb(i) + carry
		carry, n[i] = sum/base, sum%base
		if n[i] < 0 {
			n[i] += base
			carry--
		}
	}
	return carry
}

// Plus is the sum.
func (n Number) Plus(o Number) Number {
	sum := make(Number, max(len(n), len(o))+1)
	copy(sum, n)
	sum.put(o, 1)
	return sum.trimmed()
}

// Minus is the difference, of an o that is not above n.
func (n Number) Minus(o Number) Number {
	left := slices.Clone(n)
	left.put(o, -1)
	return left.trimmed()
}

// Times is the product.
func (n Number) Times(o Number) Number {
	product := make(Number, len(n)+len(o))
	for i, limb := range o {
		product[i:i+len(n)+1].put(n, limb)
	}
	return product.trimmed()
}
