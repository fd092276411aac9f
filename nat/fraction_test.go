package nat_test

import (
	"math"
	"math/big"
	"strings"
	"testing"

	"hustings/api"
	"hustings/nat"
)

func TestN3Lowest(t *testing.T) {
	cases := []struct{ n, d, want string }{
		{"6", "4", "3/2"},
		{"0", "4", "0/1"},
		{"0", "1", "0/1"},
		{"1", "1", "1/1"},
		{"7", "7", "1/1"},
		{"3", "7", "3/7"},
		{"700", "7", "100/1"},
		{tens(60), tens(40), tens(20) + "/1"},
		{nines(most / 2), nines(most), "1/1" + strings.Repeat("0", most/2-1) + "1"},
		{nines(most), tens(most - 1), nines(most) + "/" + tens(most-1)},
		{"0", nines(most), "0/1"},
	}
	for _, c := range cases {
		got, e := nat.Lowest(c.n, c.d)
		same(t, "Lowest of "+short(c.n)+" and "+short(c.d), got, e, frac(c.want))
	}
	for _, n := range []string{"0", "1", nines(most)} {
		got, e := nat.Lowest(n, "0")
		fails(t, "Lowest of "+short(n)+" and 0", got, e, api.ErrZero)
	}
}

// reckoned are two fractions, and what comes of them; without a difference, if the second is above the first,
// without a quotient, if the second is nothing.
type reckoned struct {
	x, y, sum, difference, product, quotient string
	order                                    int
}

func TestN3(t *testing.T) {
	cases := []reckoned{
		{"1/2", "1/3", "5/6", "1/6", "1/6", "3/2", 1},
		{"1/3", "1/2", "5/6", "", "1/6", "2/3", -1},
		{"1/6", "1/10", "4/15", "1/15", "1/60", "5/3", 1},
		{"1/2", "1/2", "1/1", "0/1", "1/4", "1/1", 0},
		{"3/4", "1/4", "1/1", "1/2", "3/16", "3/1", 1},
		{"2/3", "3/2", "13/6", "", "1/1", "4/9", -1},
		{"5/1", "3/1", "8/1", "2/1", "15/1", "5/3", 1},
		{"0/1", "0/1", "0/1", "0/1", "0/1", "", 0},
		{"0/1", "3/7", "3/7", "", "0/1", "0/1", -1},
		{"3/7", "0/1", "3/7", "3/7", "0/1", "", 1},
		{"1000000000/999999999", "999999999/1000000000", "1999999998000000001/999999999000000000", "1999999999/999999999000000000", "1/1", "1000000000000000000/999999998000000001", 1},
	}
	for _, c := range cases {
		c.holds(t)
	}
}

func (c reckoned) holds(t *testing.T) {
	t.Helper()
	x, y := frac(c.x), frac(c.y)
	what := " of " + c.x + " and " + c.y
	got, e := nat.Plus(x, y)
	same(t, "Plus"+what, got, e, frac(c.sum))
	got, e = nat.Minus(x, y)
	if c.difference == "" {
		fails(t, "Minus"+what, got, e, api.ErrRange)
	} else {
		same(t, "Minus"+what, got, e, frac(c.difference))
	}
	got, e = nat.Times(x, y)
	same(t, "Times"+what, got, e, frac(c.product))
	got, e = nat.Over(x, y)
	if c.quotient == "" {
		fails(t, "Over"+what, got, e, api.ErrZero)
	} else {
		same(t, "Over"+what, got, e, frac(c.quotient))
	}
	n, e := nat.Order(x, y)
	same(t, "Order"+what, n, e, c.order)
}

// TestN3Longest: what is answered may be longer than what may be handed in, and is as short as it can be.
func TestN3Longest(t *testing.T) {
	half, double := frac(nines(most)+"/2"), frac("2/"+nines(most))
	tenth := frac("1/" + tens(most-1))
	got, e := nat.Plus(half, half)
	same(t, "Plus", got, e, frac(nines(most)+"/1"))
	got, e = nat.Minus(half, half)
	same(t, "Minus", got, e, frac("0/1"))
	got, e = nat.Times(half, double)
	same(t, "Times", got, e, frac("1/1"))
	got, e = nat.Times(tenth, tenth)
	same(t, "Times", got, e, frac("1/"+tens(2*most-2)))
	got, e = nat.Over(tenth, frac(tens(most-1)+"/1"))
	same(t, "Over", got, e, frac("1/"+tens(2*most-2)))
	got, e = nat.Over(half, double)
	same(t, "Over", got, e, frac(nines(most-1)+"8"+strings.Repeat("0", most-1)+"1/4"))
	got, e = nat.Minus(double, half)
	fails(t, "Minus", got, e, api.ErrRange)
}

// TestN3HeldAgainstBig: all kinds of fractions, held against the library's.
func TestN3HeldAgainstBig(t *testing.T) {
	r := dice()
	for _, size := range []struct{ digits, times int }{{1, 1000}, {2, 1000}, {12, 1000}, {40, 1000}, {300, 100}, {most, 10}} {
		for range size.times {
			x, y := anyFraction(r, size.digits), anyFraction(r, size.digits)
			fractionsHold(t, x, y)
			fractionsHold(t, x, x)
			fractionsHold(t, x, written(new(big.Rat).SetFrac(number(y.Num), number(x.Den)))) // much in common
		}
	}
}

// fractionsHold holds all that is reckoned of two fractions against the library.
func fractionsHold(t *testing.T, x api.Frac, y api.Frac) {
	t.Helper()
	a, b, c := worth(x), worth(y), new(big.Rat)
	what := " of " + x.Num + "/" + x.Den + " and " + y.Num + "/" + y.Den
	got, e := nat.Plus(x, y)
	same(t, "Plus"+what, got, e, written(c.Add(a, b)))
	got, e = nat.Times(x, y)
	same(t, "Times"+what, got, e, written(c.Mul(a, b)))
	n, e := nat.Order(x, y)
	same(t, "Order"+what, n, e, a.Cmp(b))
	got, e = nat.Minus(x, y)
	if a.Cmp(b) < 0 {
		fails(t, "Minus"+what, got, e, api.ErrRange)
	} else {
		same(t, "Minus"+what, got, e, written(c.Sub(a, b)))
	}
	got, e = nat.Over(x, y)
	if y.Num == "0" {
		fails(t, "Over"+what, got, e, api.ErrZero)
	} else {
		same(t, "Over"+what, got, e, written(c.Quo(a, b)))
	}
}

// TestN3FarthestFromTheirDivisor: the longest fractions for which Euclid needs the most steps.
func TestN3FarthestFromTheirDivisor(t *testing.T) {
	a, b := neighbours(most)
	fractionsHold(t, api.Frac{Num: a, Den: b}, api.Frac{Num: b, Den: a})
}

func TestN4Floor(t *testing.T) {
	cases := []struct{ x, want string }{
		{"7/2", "3"},
		{"0/1", "0"},
		{"1/2", "0"},
		{"999999999/1000000000", "0"},
		{"1/1", "1"},
		{"8/1", "8"},
		{nines(most) + "/1", nines(most)},
		{"1/" + nines(most), "0"},
		{nines(most) + "/10", nines(most - 1)},
	}
	for _, c := range cases {
		got, e := nat.Floor(frac(c.x))
		same(t, "Floor of "+short(c.x), got, e, c.want)
	}
}

func TestN4Show(t *testing.T) {
	cases := []struct {
		x      string
		places int
		want   string
	}{
		{"22/7", 10, "3.1428571428"},
		{"22/7", 0, "3"},
		{"22/7", 1, "3.1"},
		{"1/2", 0, "0"},
		{"1/2", 1, "0.5"},
		{"1/2", 5, "0.50000"},
		{"0/1", 0, "0"},
		{"0/1", 3, "0.000"},
		{"12/1", 2, "12.00"},
		{"2/3", 4, "0.6666"},
		{"1999/1000", 2, "1.99"},
		{"1999/1000", 3, "1.999"},
		{"1/1000", 2, "0.00"},
		{"1/1000", 3, "0.001"},
		{"1/1000", 4, "0.0010"},
		{"100001/1000", 3, "100.001"},
		{"1/3", 100, "0." + strings.Repeat("3", 100)},
		{"1/" + tens(100), 100, "0." + strings.Repeat("0", 99) + "1"},
		{"1/" + tens(100), 99, "0." + strings.Repeat("0", 99)},
		{"1/" + nines(most), 100, "0." + strings.Repeat("0", 100)},
		{nines(most) + "/" + tens(most-1), 100, "9." + nines(100)},
		{nines(most) + "/1", 100, nines(most) + "." + strings.Repeat("0", 100)},
	}
	for _, c := range cases {
		got, e := nat.Show(frac(c.x), c.places)
		same(t, "Show of "+short(c.x), got, e, c.want)
	}
}

func TestN4ShowIsWithinRange(t *testing.T) {
	for _, places := range []int{-1, 101, 1000, math.MinInt, math.MaxInt} {
		got, e := nat.Show(frac("1/2"), places)
		fails(t, "Show with wrong places", got, e, api.ErrRange)
	}
}

func TestN4HeldAgainstBig(t *testing.T) {
	r := dice()
	for range 2000 {
		x := anyFraction(r, 1+r.IntN(60))
		whole := new(big.Int).Quo(number(x.Num), number(x.Den)).String()
		got, e := nat.Floor(x)
		same(t, "Floor of "+x.Num+"/"+x.Den, got, e, whole)
		places := r.IntN(101)
		digits := new(big.Int).Mul(number(x.Num), number(tens(places)))
		digits.Quo(digits, number(x.Den)).Sub(digits, new(big.Int).Mul(number(whole), number(tens(places))))
		want := whole
		if places > 0 {
			behind := digits.String()
			want += "." + strings.Repeat("0", places-len(behind)) + behind
		}
		got, e = nat.Show(x, places)
		same(t, "Show of "+x.Num+"/"+x.Den, got, e, want)
	}
}
