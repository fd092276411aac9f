package nat_test

import (
	"math/big"
	"strings"
	"testing"

	"hustings/api"
	"hustings/nat"
)

func TestN2Add(t *testing.T) {
	cases := []struct{ a, b, want string }{
		{"0", "0", "0"},
		{"0", "7", "7"},
		{"7", "0", "7"},
		{"999", "1", "1000"},
		{"999999999", "1", "1000000000"},
		{"1", "999999999999999999", "1000000000000000000"},
		{"18446744073709551615", "1", "18446744073709551616"},
		{nines(most), "1", tens(most)},
		{nines(most), nines(most), "1" + nines(most-1) + "8"},
	}
	for _, c := range cases {
		got, e := nat.Add(c.a, c.b)
		same(t, "Add of "+short(c.a)+" and "+short(c.b), got, e, c.want)
	}
}

func TestN2Sub(t *testing.T) {
	cases := []struct{ a, b, want string }{
		{"0", "0", "0"},
		{"7", "0", "7"},
		{"7", "7", "0"},
		{"1000", "1", "999"},
		{"1000000000", "1", "999999999"},
		{"1000000000000000000", "999999999", "999999999000000001"},
		{tens(60), "1", nines(60)},
		{tens(60), nines(60), "1"},
		{nines(most), nines(most), "0"},
		{nines(most), nines(most-1) + "8", "1"},
	}
	for _, c := range cases {
		got, e := nat.Sub(c.a, c.b)
		same(t, "Sub of "+short(c.a)+" and "+short(c.b), got, e, c.want)
	}
	for _, c := range [][2]string{{"0", "1"}, {"1", "2"}, {"9", "10"}, {"999999999", "1000000000"}, {"2000000001", "2000000002"}, {"1", nines(most)}, {nines(most-1) + "8", nines(most)}} {
		got, e := nat.Sub(c[0], c[1])
		fails(t, "Sub of "+short(c[0])+" and "+short(c[1]), got, e, api.ErrRange)
	}
}

func TestN2Mul(t *testing.T) {
	cases := []struct{ a, b, want string }{
		{"0", "0", "0"},
		{"0", nines(most), "0"},
		{nines(most), "0", "0"},
		{"1", nines(most), nines(most)},
		{"12", "12", "144"},
		{"999999999", "999999999", "999999998000000001"},
		{tens(60), "12345678901234567890", "12345678901234567890" + strings.Repeat("0", 60)},
		{nines(most), nines(most), nines(most-1) + "8" + strings.Repeat("0", most-1) + "1"},
	}
	for _, c := range cases {
		got, e := nat.Mul(c.a, c.b)
		same(t, "Mul of "+short(c.a)+" and "+short(c.b), got, e, c.want)
	}
}

func TestN2Div(t *testing.T) {
	cases := []struct{ a, b, q, r string }{
		{"0", "1", "0", "0"},
		{"0", nines(most), "0", "0"},
		{"7", "1", "7", "0"},
		{"7", "2", "3", "1"},
		{"7", "7", "1", "0"},
		{"6", "7", "0", "6"},
		{"7", tens(60), "0", "7"},
		{tens(60), "7", "142857142857142857142857142857142857142857142857142857142857", "1"},
		{tens(18), tens(9), tens(9), "0"},
		{nines(18), tens(9), nines(9), nines(9)},
		{nines(most), nines(most), "1", "0"},
		{nines(most), nines(most / 2), "1" + strings.Repeat("0", most/2-1) + "1", "0"},
		{nines(most), "1", nines(most), "0"},
		{nines(most - 1), nines(most), "0", nines(most - 1)},
	}
	for _, c := range cases {
		q, r, e := nat.Div(c.a, c.b)
		same(t, "Div of "+short(c.a)+" and "+short(c.b), [2]string{q, r}, e, [2]string{c.q, c.r})
	}
	for _, a := range []string{"0", "1", "7", tens(60), nines(most)} {
		q, r, e := nat.Div(a, "0")
		fails(t, "Div of "+short(a)+" and 0", [2]string{q, r}, e, api.ErrZero)
	}
}

// TestN2DivGuesses: divisions in which the first guess of a part of the quotient is too high.
func TestN2DivGuesses(t *testing.T) {
	limbs := []string{"000000000", "000000001", "499999999", "500000000", "500000001", "999999998", "999999999"}
	var tops []string
	for _, a := range limbs[1:] {
		for _, b := range limbs {
			tops = append(tops, a+b)
		}
	}
	for _, top := range tops {
		for _, low := range limbs {
			d := strings.TrimLeft(top+low, "0")
			for _, q := range []string{"1", "999999998", "999999999", "999999999999999999", "500000000000000000"} {
				for _, less := range []int64{1, 0, -1} {
					n := new(big.Int).Mul(number(d), number(q))
					divides(t, n.Sub(n, big.NewInt(less)).String(), d)
				}
			}
			for _, top := range tops {
				divides(t, strings.TrimLeft(top+low+"000000000", "0"), d)
			}
		}
	}
}

// divides holds a division against another one.
func divides(t *testing.T, a string, b string) {
	t.Helper()
	q, r := new(big.Int).QuoRem(number(a), number(b), new(big.Int))
	gotQ, gotR, e := nat.Div(a, b)
	same(t, "Div of "+a+" and "+b, [2]string{gotQ, gotR}, e, [2]string{q.String(), r.String()})
}

func TestN2Gcd(t *testing.T) {
	a, b := neighbours(most)
	cases := []struct{ a, b, want string }{
		{"0", "0", "0"},
		{"0", "1", "1"},
		{"0", "5", "5"},
		{"5", "0", "5"},
		{"0", nines(most), nines(most)},
		{nines(most), "0", nines(most)},
		{"1", nines(most), "1"},
		{"84", "36", "12"},
		{"36", "84", "12"},
		{"17", "17", "17"},
		{"17", "51", "17"},
		{"1000000007", "998244353", "1"},
		{tens(60), tens(40), tens(40)},
		{nines(60), nines(40), nines(20)},
		{nines(most), nines(most), nines(most)},
		{nines(3600), nines(2700), nines(900)},
		{nines(most), nines(most - 1), "9"},
		{tens(most - 1), "2" + strings.Repeat("0", 30), "2" + strings.Repeat("0", 30)},
		{a, b, "1"},
		{b, a, "1"},
	}
	for _, c := range cases {
		got, e := nat.Gcd(c.a, c.b)
		same(t, "Gcd of "+short(c.a)+" and "+short(c.b), got, e, c.want)
	}
}

func TestN2Compare(t *testing.T) {
	rising := []string{"0", "1", "2", "9", "10", "99", "999999999", "1000000000", "1000000001", "2000000000", "18446744073709551615", "18446744073709551616", tens(60), nines(most-1) + "8", nines(most)}
	for i, a := range rising {
		for k, b := range rising {
			want := 0
			if i < k {
				want = -1
			} else if i > k {
				want = 1
			}
			got, e := nat.Compare(a, b)
			same(t, "Compare of "+short(a)+" and "+short(b), got, e, want)
		}
	}
}

// TestN2HeldAgainstBig: all kinds of numbers, of all lengths, held against the library's.
func TestN2HeldAgainstBig(t *testing.T) {
	r := dice()
	for _, size := range []struct{ digits, times int }{{3, 200}, {20, 3000}, {40, 3000}, {100, 2000}, {400, 300}, {most, 60}} {
		for range size.times {
			holds(t, anyNumber(r, size.digits), anyNumber(r, size.digits))
		}
		for range size.times { // with much in common
			c := anyNumber(r, size.digits)
			keep := (size.digits + 1) / 2
			holds(t, product(c, anyNumber(r, size.digits), keep), product(c, anyNumber(r, size.digits), keep))
		}
	}
}

// product is a number whose factors have at most so many digits.
func product(a string, b string, digits int) string {
	return new(big.Int).Mul(number(a[:min(len(a), digits)]), number(b[:min(len(b), digits)])).String()
}

// holds holds all that is reckoned of two numbers against the library.
func holds(t *testing.T, a string, b string) {
	t.Helper()
	x, y, z := number(a), number(b), new(big.Int)
	what := " of " + a + " and " + b
	got, e := nat.Add(a, b)
	same(t, "Add"+what, got, e, z.Add(x, y).String())
	got, e = nat.Mul(a, b)
	same(t, "Mul"+what, got, e, z.Mul(x, y).String())
	got, e = nat.Gcd(a, b)
	same(t, "Gcd"+what, got, e, z.GCD(nil, nil, x, y).String())
	n, e := nat.Compare(a, b)
	same(t, "Compare"+what, n, e, x.Cmp(y))
	got, e = nat.Sub(a, b)
	if x.Cmp(y) < 0 {
		fails(t, "Sub"+what, got, e, api.ErrRange)
	} else {
		same(t, "Sub"+what, got, e, z.Sub(x, y).String())
	}
	if b != "0" {
		divides(t, a, b)
	}
}
