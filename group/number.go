package group

import "math/bits"

// Sizes of numbers.
const (
	wordSize  = 8 // bytes of a word
	mostWords = 4 // words of the longest number
	digitSize = 4 // bits of a digit: a power's exponent is taken digit by digit
	mostDigit = 1<<digitSize - 1
)

// number is a number, its lowest word first. Of kinds with short numbers the upper words are 0.
type number [mostWords]uint64

// numberOf is the number that bytes are, the highest first: no more of them than fit.
func numberOf(b string) number {
	var n number
	for i := range len(b) {
		place := len(b) - 1 - i
		n[place/wordSize] |= uint64(b[i]) << (place % wordSize * 8)
	}
	return n
}

// text is the lowest size bytes of a number, the highest first.
func (n number) text(size int) string {
	out := make([]byte, size)
	for i := range out {
		place := size - 1 - i
		out[i] = byte(n[place/wordSize] >> (place % wordSize * 8))
	}
	return string(out)
}

// plus is the sum, modulo what a number can hold.
func (n number) plus(m number) number {
	var carry uint64
	for i := range n {
		n[i], carry = bits.Add64(n[i], m[i], carry)
	}
	return n
}

// minus is the difference, modulo what a number can hold; and 1, if m is the greater one.
func (n number) minus(m number) (number, uint64) {
	var borrow uint64
	for i := range n {
		n[i], borrow = bits.Sub64(n[i], m[i], borrow)
	}
	return n, borrow
}

// less tells whether a number is less than another one.
func (n number) less(m number) bool {
	_, borrow := n.minus(m)
	return borrow == 1
}

// digits is how many digits a number has, in the base 2^digitSize: 0 has none.
func (n number) digits() int {
	for i := mostWords - 1; i >= 0; i-- {
		if n[i] != 0 {
			return (i*64 + bits.Len64(n[i]) + digitSize - 1) / digitSize
		}
	}
	return 0
}

// digit is the one at a place, the lowest at 0.
func (n number) digit(place int) int {
	at := place * digitSize
	return int(n[at/64] >> (at % 64) & mostDigit)
}
