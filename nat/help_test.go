package nat_test

import (
	"math/big"
	"math/rand/v2"
	"strings"
	"testing"

	"hustings/api"
)

// most is how many digits may be handed in, as the document says it.
const most = 4000

// same tells where something else comes than should.
func same[T comparable](t *testing.T, what string, got T, e api.Errno, want T) {
	t.Helper()
	if got != want || e != api.OK {
		t.Errorf("%s: %v comes, error %d, not %v", what, got, e, want)
	}
}

// fails tells where an error is another one, or something comes beside it.
func fails[T comparable](t *testing.T, what string, got T, e api.Errno, want api.Errno) {
	t.Helper()
	var none T
	if got != none || e != want {
		t.Errorf("%s: %v comes, error %d, not error %d", what, got, e, want)
	}
}

// frac is a fraction that is written as num/den.
func frac(text string) api.Frac {
	num, den, _ := strings.Cut(text, "/")
	return api.Frac{Num: num, Den: den}
}

// nines and tens are the greatest number with n digits, and the least with more.
func nines(n int) string { return strings.Repeat("9", n) }

func tens(n int) string { return "1" + strings.Repeat("0", n) }

// dice is a row of numbers that is the same each time.
func dice() *rand.Rand { return rand.New(rand.NewPCG(2, 7)) }

// anyNumber is a number of at most n digits: runs of zeros and of nines, halves of a power of ten and their neighbours stand in it
// far more often than by chance, for there carrying and guessing go wrong.
func anyNumber(r *rand.Rand, n int) string {
	length := 1 + r.IntN(n)
	var b strings.Builder
	for b.Len() < length {
		switch r.IntN(9) {
		case 0:
			b.WriteString("000000000")
		case 1:
			b.WriteString("999999999")
		case 2:
			b.WriteString("500000000")
		case 3:
			b.WriteString("499999999")
		case 4:
			b.WriteString("000000001")
		case 5:
			b.WriteString(strings.Repeat("0", r.IntN(20)))
		case 6:
			b.WriteString(strings.Repeat("9", r.IntN(20)))
		default:
			for range 1 + r.IntN(30) {
				b.WriteByte('0' + byte(r.IntN(10)))
			}
		}
	}
	s := strings.TrimLeft(b.String()[b.Len()-length:], "0")
	if s == "" {
		return "0"
	}
	return s
}

// number is what a text is worth.
func number(text string) *big.Int {
	n, ok := new(big.Int).SetString(text, 10)
	if !ok {
		panic(text)
	}
	return n
}

// worth is what a fraction is worth.
func worth(f api.Frac) *big.Rat { return new(big.Rat).SetFrac(number(f.Num), number(f.Den)) }

// written is a fraction as it must be written.
func written(r *big.Rat) api.Frac { return api.Frac{Num: r.Num().String(), Den: r.Denom().String()} }

// anyFraction is a fraction with numbers of at most n digits.
func anyFraction(r *rand.Rand, n int) api.Frac {
	den := anyNumber(r, n)
	if den == "0" {
		den = "1"
	}
	return written(new(big.Rat).SetFrac(number(anyNumber(r, n)), number(den)))
}

// neighbours are two numbers, one behind the other among those that are the sum of the two ahead of them,
// the greater with n digits: no others of their length are so far from their greatest divisor.
func neighbours(n int) (string, string) {
	a, b := big.NewInt(1), big.NewInt(1)
	for end := number(tens(n)); ; {
		c := new(big.Int).Add(a, b)
		if c.Cmp(end) >= 0 {
			return b.String(), a.String()
		}
		a, b = b, c
	}
}
