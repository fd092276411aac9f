package audit_test

import (
	"fmt"
	"math/big"
	"strings"
	"testing"

	"hustings/api"
	"hustings/audit"
)

func TestU4Chance(t *testing.T) {
	cases := []struct {
		winner, loser, a, b, total int
		risk                       string
		n                          int
		want                       string
	}{
		{6, 3, 5, 5, 10, "1/2", 6, "7/32"},
		{6, 3, 8, 1, 10, "1/10", 12, "131956736/244140625"},
		{6, 3, 8, 1, 10, "1", 0, "1"}, {6, 3, 0, 0, 10, "1", 24, "1"}, {6, 3, 0, 10, 10, "1", 24, "1"}, // settled ahead of the first ballot
		{6, 3, 8, 1, 10, "1/10", 0, "0"}, {6, 3, 0, 0, 10, "99/100", 24, "0"}, {6, 3, 0, 10, 10, "99/100", 24, "0"},
		{6, 3, 10, 0, 10, "3/4", 1, "1"}, {6, 3, 7, 0, 10, "3/4", 1, "7/10"}, {6, 3, 7, 0, 10, "37/50", 1, "0"}, // 4/3 is just enough
		{6, 3, 7, 3, 10, "3/4", 2, "7/10"}, {6, 3, 7, 0, 10, "3/4", 2, "91/100"},
		{1, 0, 1, 1, 2, "1/2", 24, "1/2"}, {1, 0, 1, 1, 2, "1/4", 24, "1/4"}, {1, 0, 1, 1, 4, "1/4", 2, "1/16"},
		{1, 0, 1, 1, 2, "1/16777216", 24, "1/16777216"}, {1, 0, 1, 1, 2, "1/16777217", 24, "0"},
		{1048576, 1048575, 1048576, 0, 1048576, "1/10", 24, "0"}, {1048576, 0, 1048576, 0, 1048576, "1/16777216", 24, "1"},
	}
	for _, c := range cases {
		got, e := audit.Chance(c.winner, c.loser, c.a, c.b, c.total, frac(c.risk), c.n)
		same(t, fmt.Sprint(c), got, e, frac(c.want))
	}
}

func TestU4Wrong(t *testing.T) {
	type call struct {
		winner, loser, a, b, total int
		risk                       string
		n                          int
	}
	right := call{6, 3, 8, 1, 10, "1/10", 12}
	try := func(e api.Errno, change func(c *call)) {
		t.Helper()
		c := right
		change(&c)
		got, answered := audit.Chance(c.winner, c.loser, c.a, c.b, c.total, frac(c.risk), c.n)
		if e == api.OK && answered == api.OK {
			return
		}
		fails(t, short(c), got, answered, e)
	}
	for _, n := range []int{least, -1, 1<<20 + 1, 1<<32 + 7, most} {
		try(api.ErrRange, func(c *call) { c.winner = n })
		try(api.ErrRange, func(c *call) { c.loser = n })
		try(api.ErrRange, func(c *call) { c.total = n })
		try(api.ErrRange, func(c *call) { c.n = n })
	}
	for _, n := range []int{least, -1} {
		try(api.ErrRange, func(c *call) { c.a = n })
		try(api.ErrRange, func(c *call) { c.b = n })
		try(api.ErrRange, func(c *call) { c.a, c.b = n, 1<<20 })
		try(api.ErrRange, func(c *call) { c.a, c.b = most, n })
	}
	try(api.ErrRange, func(c *call) { c.total = 0 })
	try(api.ErrRange, func(c *call) { c.n = 25 })
	try(api.OK, func(c *call) { c.n = 24 })
	try(api.OK, func(c *call) { c.winner, c.total = 1<<20, 1<<20 })
	try(api.OK, func(c *call) { c.a, c.b = 9, 1 })
	for _, n := range []int{10, 1 << 20, 1 << 32, 1 << 62, most - 1, most} {
		try(api.ErrForm, func(c *call) { c.a = n })
		try(api.ErrForm, func(c *call) { c.b = n })
		try(api.ErrForm, func(c *call) { c.a, c.b = n, n })
		try(api.ErrForm, func(c *call) { c.a, c.b = n, most })
	}
	for _, n := range []int{6, 7, 1 << 20} {
		try(api.ErrTie, func(c *call) { c.loser = n })
	}
	try(api.ErrTie, func(c *call) { c.winner, c.loser = 0, 0 })
	for _, r := range risks() {
		try(r.e, func(c *call) { c.risk = r.risk.Num + "/" + r.risk.Den })
		try(api.ErrRange, func(c *call) { c.risk, c.n = r.risk.Num+"/"+r.risk.Den, 25 })
		try(api.ErrForm, func(c *call) { c.risk, c.b = r.risk.Num+"/"+r.risk.Den, 3 })
		if r.e != api.OK {
			try(r.e, func(c *call) { c.risk, c.winner = r.risk.Num+"/"+r.risk.Den, 3 })
		}
	}
	try(api.ErrRange, func(c *call) { c.n, c.b, c.risk, c.winner = 25, 3, "2/2", 3 })
	try(api.ErrForm, func(c *call) { c.b, c.risk, c.winner = 3, "2", 3 })
}

// walked goes through all rows of n ballots with the calls of this package, and counts those that settle a watch.
func walked(w api.Watch, a, b, total, n int) int {
	if n == 0 {
		if audit.Settled(w) {
			return 1
		}
		return 0
	}
	sum := 0
	for _, c := range []struct {
		ballots int
		marks   []int
	}{{a, []int{1, 0}}, {b, []int{0, 1}}, {total - a - b, []int{1, 1}}} {
		if next, e := audit.Draw(w, c.marks); c.ballots > 0 && e == api.OK {
			sum += c.ballots * walked(next, a, b, total, n-1)
		}
	}
	return sum
}

// The chance is that of the watch: all that may be drawn, drawn.
func TestU4OfWatches(t *testing.T) {
	d := dice()
	for range 60 {
		loser := d.IntN(10)
		winner := loser + 1 + d.IntN(10)
		total := 1 + d.IntN(12)
		a := d.IntN(total + 1)
		b := d.IntN(total - a + 1)
		n := d.IntN(6)
		risk := told(rat(frac(fmt.Sprintf("%d/%d", 1+d.IntN(20), 20+d.IntN(20)))))
		w, _ := audit.Begin([]int{winner, loser}, []int{0}, risk)
		all := 1
		for range n {
			all *= total
		}
		want := told(big.NewRat(int64(walked(w, a, b, total, n)), int64(all)))
		got, e := audit.Chance(winner, loser, a, b, total, risk, n)
		same(t, fmt.Sprint(winner, loser, a, b, total, risk, n), got, e, want)
	}
}

func TestU4Random(t *testing.T) {
	d := dice()
	some := 0
	for k := range 400 {
		high := []int{5, 100, 1 << 20}[k%3]
		loser := d.IntN(high)
		winner := loser + 1 + d.IntN(high-loser)
		total := 1 + d.IntN(high)
		a := d.IntN(total + 1)
		b := d.IntN(total - a + 1)
		n := d.IntN(8)
		risk := told(rat(frac(fmt.Sprintf("%d/%d", 20+d.IntN(40), 60+d.IntN(20)))))
		share := big.NewRat(int64(winner), int64(winner+loser))
		want := told(chanceModel(share, big.NewRat(1, 1), rat(risk), a, b, total, n))
		got, e := audit.Chance(winner, loser, a, b, total, risk, n)
		same(t, fmt.Sprint(winner, loser, a, b, total, risk, n), got, e, want)
		if got != frac("0") && got != frac("1") {
			some++
		}
	}
	if some < 100 {
		t.Errorf("only %d of the chances are neither 0 nor 1", some)
	}
}

// byRows is the chance by another way: how many ballots of both kinds came, and in how many orders without being settled.
func byRows(winner, loser, a, b, total int, risk *big.Rat, n int) *big.Rat {
	share := big.NewRat(int64(winner), int64(winner+loser))
	gain, fall := factor(share, true, false), factor(share, false, true)
	ways := make([][]*big.Int, n+1) // orders of i and k ballots that settle nothing on the way
	open := new(big.Rat)            // the chance that nothing is settled
	odds := big.NewRat(1, 1)
	for i := range ways {
		ways[i] = make([]*big.Int, n+1)
		now := new(big.Rat).Set(odds)
		for k := range n + 1 - i {
			ways[i][k] = new(big.Int)
			if i == 0 && k == 0 {
				ways[i][k].SetInt64(1)
			}
			if i > 0 {
				ways[i][k].Add(ways[i][k], ways[i-1][k])
			}
			if k > 0 {
				ways[i][k].Add(ways[i][k], ways[i][k-1])
			}
			if enough(now, risk) {
				ways[i][k].SetInt64(0)
			}
			now.Mul(now, fall)
			rows := new(big.Int).Mul(ways[i][k], new(big.Int).Binomial(int64(n), int64(i+k)))
			for _, c := range [][2]int{{a, i}, {b, k}, {total - a - b, n - i - k}} {
				rows.Mul(rows, new(big.Int).Exp(big.NewInt(int64(c[0])), big.NewInt(int64(c[1])), nil))
			}
			open.Add(open, new(big.Rat).SetInt(rows))
		}
		odds.Mul(odds, gain)
	}
	all := new(big.Int).Exp(big.NewInt(int64(total)), big.NewInt(int64(n)), nil)
	open.Mul(open, new(big.Rat).SetFrac(big.NewInt(1), all))
	return open.Sub(big.NewRat(1, 1), open)
}

// As many ballots as may be, and the greatest numbers.
func TestU4Most(t *testing.T) {
	d := dice()
	for k := range 60 {
		loser := d.IntN(1 << 19)
		winner := loser + 1 + d.IntN(1<<20-loser)
		total := 1<<20 - d.IntN(1000)
		a := d.IntN(total + 1)
		b := d.IntN(total - a + 1)
		n := 24 - k%5
		risk := told(rat(frac(fmt.Sprintf("%d/%d", 1+d.IntN(40), 41+d.IntN(400)))))
		if k%10 == 0 {
			risk = frac("9" + zeros(98) + "1/" + strings.Repeat("9", 100))
		}
		got, e := audit.Chance(winner, loser, a, b, total, risk, n)
		same(t, fmt.Sprint(winner, loser, a, b, total, risk, n), got, e, told(byRows(winner, loser, a, b, total, rat(risk), n)))
	}
}

// A risk that is said is kept: if the winner has not more than the loser, the chance is not above it, whatever was counted.
func TestU4RiskIsKept(t *testing.T) {
	d := dice()
	for range 150 {
		loser := d.IntN(20)
		winner := loser + 1 + d.IntN(60)
		total := 2 + d.IntN(60)
		b := 1 + d.IntN(total/2)
		a := b - d.IntN(2)*d.IntN(b)
		if a+b > total {
			a = total - b
		}
		n := d.IntN(25)
		risk := told(rat(frac(fmt.Sprintf("1/%d", 1+d.IntN(30)))))
		got, e := audit.Chance(winner, loser, a, b, total, risk, n)
		if e != api.OK || rat(got).Cmp(rat(risk)) > 0 {
			t.Errorf("%d to %d, %d and %d of %d, %d drawn: error %d, the chance is %s, the risk %s", winner, loser, a, b, total, n, e, short(got), short(risk))
		}
	}
}

// With each ballot more the chance is as great, or greater.
func TestU4Grows(t *testing.T) {
	last := new(big.Rat)
	for n := range 25 {
		got, e := audit.Chance(6, 3, 7, 2, 10, frac("1/5"), n)
		if e != api.OK || rat(got).Cmp(last) < 0 {
			t.Errorf("%d ballots: error %d, %s", n, e, short(got))
		}
		last = rat(got)
	}
	if last.Cmp(big.NewRat(1, 2)) < 0 {
		t.Errorf("the last chance is %s", last.RatString())
	}
}
