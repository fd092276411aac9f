package long_test

import (
	"math/big"
	"math/rand/v2"
	"strings"
	"testing"

	"hustings/api"
	"hustings/long"
)

// What nat's face reaches of this package is looked after there; here are numbers that are longer than it takes.

// dice is a row of numbers that is the same each time.
func dice() *rand.Rand { return rand.New(rand.NewPCG(2, 13)) }

// digits is a number of so many digits, with runs of zeros and of nines.
func digits(d *rand.Rand, n int) string {
	var b strings.Builder
	b.WriteByte(byte('1' + d.IntN(9)))
	for b.Len() < n {
		b.WriteString([]string{"000000000", "999999999", "7", "31", "4999999995"}[d.IntN(5)])
	}
	return b.String()[:n]
}

// number is a number of math/big.
func number(text string) *big.Int {
	n, _ := new(big.Int).SetString(text, 10)
	return n
}

// same tells where other digits come than should.
func same(t *testing.T, what string, got long.Number, want *big.Int) {
	t.Helper()
	if got.Text() != want.String() {
		t.Errorf("%s: %.100s comes, not %.100s", what, got.Text(), want)
	}
}

func TestN2Small(t *testing.T) {
	for n, want := range map[int]string{0: "0", 1: "1", 13: "13", 4096: "4096", 999_999_999: "999999999"} {
		if got := long.Small(n); got.Text() != want || got.Compare(long.Of(want)) != 0 || got.IsZero() != (n == 0) || got.IsOne() != (n == 1) {
			t.Errorf("%d is told as %s", n, got.Text())
		}
	}
}

func TestN2Longer(t *testing.T) {
	d := dice()
	for _, n := range []int{4001, 9000, 15000} {
		for range 5 {
			a, b := digits(d, n), digits(d, n-d.IntN(n/2))
			x, y := long.Of(a), long.Of(b)
			if x.Compare(y) < 0 {
				a, b, x, y = b, a, y, x
			}
			i, k := number(a), number(b)
			same(t, "Plus", x.Plus(y), new(big.Int).Add(i, k))
			same(t, "Minus", x.Minus(y), new(big.Int).Sub(i, k))
			same(t, "Times", x.Times(y), new(big.Int).Mul(i, k))
			quotient, rest := x.Over(y)
			wantQ, wantR := new(big.Int).QuoRem(i, k, new(big.Int))
			same(t, "Over", quotient, wantQ)
			same(t, "Over: what is left", rest, wantR)
			same(t, "Gcd", x.Gcd(y), new(big.Int).GCD(nil, nil, i, k))
			common := long.Of(digits(d, n/3))
			same(t, "Gcd with much in common", x.Times(common).Gcd(y.Times(common)),
				new(big.Int).Mul(new(big.Int).GCD(nil, nil, i, k), number(common.Text())))
			if x.Compare(y) != i.Cmp(k) || x.Compare(x) != 0 || y.Compare(x) != k.Cmp(i) {
				t.Error("Compare is wrong")
			}
			if x.Text() != a || y.Text() != b {
				t.Error("what was reckoned with is changed")
			}
		}
	}
}

func TestN3Longer(t *testing.T) {
	d := dice()
	for range 5 {
		f := long.Lowest(long.Of(digits(d, 6000)), long.Of(digits(d, 5000)))
		g := long.Lowest(long.Of(digits(d, 4500)), long.Of(digits(d, 5000)))
		if f.Compare(g) < 0 {
			f, g = g, f
		}
		x, y := rat(f), rat(g)
		told(t, "Plus", f.Plus(g), new(big.Rat).Add(x, y))
		told(t, "Minus", f.Minus(g), new(big.Rat).Sub(x, y))
		told(t, "Times", f.Times(g), new(big.Rat).Mul(x, y))
		if f.Compare(g) != x.Cmp(y) {
			t.Error("Compare is wrong")
		}
	}
	told(t, "nothing", long.Lowest(long.Small(0), long.Of(digits(d, 5000))), new(big.Rat))
}

func TestN2Without(t *testing.T) {
	d := dice()
	for range 400 {
		by := big.NewInt(int64(2 + d.IntN(12)))
		if d.IntN(2) == 0 {
			by = number(digits(d, 1+d.IntN(60)))
			by.Add(by, big.NewInt(1))
		}
		n := number(digits(d, 1+d.IntN(300)))
		n.Mul(n, new(big.Int).Exp(by, big.NewInt(int64(d.IntN(70))), nil))
		before, divisor := long.Of(n.String()), long.Of(by.String())
		got := before.Without(divisor)
		want := new(big.Int).Set(n)
		for rest := new(big.Int); rest.Mod(want, by).Sign() == 0; {
			want.Quo(want, by)
		}
		same(t, "Without", got, want)
		same(t, "what was divided", before, n)
		same(t, "what it was divided by", divisor, by)
	}
	same(t, "nothing", long.Small(0).Without(long.Small(7)), new(big.Int))
}

func TestN1Read(t *testing.T) {
	nines := strings.Repeat("9", 9000)
	for _, text := range []string{"0", "1", "10", "999999999", "1000000000", nines} {
		if !long.IsNumber(text) {
			t.Errorf("%.20s is no number", text)
		}
	}
	for _, text := range []string{"", "00", "01", "-1", "+1", " 1", "1 ", "1.0", "a", "1\x00", "0" + nines, nines + ":", "/" + nines} {
		if long.IsNumber(text) {
			t.Errorf("%.20q is a number", text)
		}
		for _, x := range []api.Frac{{Num: text, Den: "1"}, {Num: "1", Den: text}} {
			if _, ok := long.Terms(x); ok {
				t.Errorf("%.20q is a term", text)
			}
			if _, ok := long.Read(x); ok {
				t.Errorf("%.20q is read", text)
			}
		}
	}
	for _, x := range []struct {
		num, den    string
		terms, read bool
	}{
		{"0", "1", true, true}, {"1", "1", true, true}, {"6", "4", true, false}, {"0", "2", true, false}, {"1", "0", false, false}, {"0", "0", false, false},
		{nines, "1", true, true}, {nines, "3", true, false}, {nines, "1" + strings.Repeat("0", 9000), true, true}, {nines, nines, true, false},
	} {
		got, ok := long.Terms(api.Frac{Num: x.num, Den: x.den})
		if ok != x.terms || ok && (got.Num.Text() != x.num || got.Den.Text() != x.den) {
			t.Errorf("%.10s / %.10s: the terms are %t", x.num, x.den, ok)
		}
		got, ok = long.Read(api.Frac{Num: x.num, Den: x.den})
		if ok != x.read || ok && (got.Num.Text() != x.num || got.Den.Text() != x.den) {
			t.Errorf("%.10s / %.10s: it is read: %t", x.num, x.den, ok)
		}
	}
}

func rat(f long.Fraction) *big.Rat {
	return new(big.Rat).SetFrac(number(f.Num.Text()), number(f.Den.Text()))
}

// told tells where another fraction comes than should, or not in lowest terms.
func told(t *testing.T, what string, got long.Fraction, want *big.Rat) {
	t.Helper()
	if got.Frac() != (api.Frac{Num: want.Num().String(), Den: want.Denom().String()}) {
		t.Errorf("%s: another fraction comes", what)
	}
}
