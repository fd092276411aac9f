package audit_test

import (
	"fmt"
	"math/big"
	"math/rand/v2"
	"slices"
	"strings"
	"testing"

	"hustings/api"
	"hustings/audit"
)

func TestU2Begin(t *testing.T) {
	cases := []struct {
		totals, winners []int
		want            api.Watch
	}{
		{[]int{60, 30}, []int{0}, api.Watch{Winners: []int{0}, Losers: []int{1}, Shares: fracs("2/3"), Odds: fracs("1")}},
		{[]int{60, 30, 10}, []int{0}, api.Watch{Winners: []int{0, 0}, Losers: []int{1, 2}, Shares: fracs("2/3 6/7"), Odds: fracs("1 1")}},
		{[]int{0, 1}, []int{1}, api.Watch{Winners: []int{1}, Losers: []int{0}, Shares: fracs("1"), Odds: fracs("1")}},
		{[]int{1048575, 1048576}, []int{1}, api.Watch{Winners: []int{1}, Losers: []int{0}, Shares: fracs("1048576/2097151"), Odds: fracs("1")}},
		{[]int{7, 5, 8, 0}, []int{2, 0}, api.Watch{
			Winners: []int{2, 2, 0, 0}, Losers: []int{1, 3, 1, 3}, Shares: fracs("8/13 1 7/12 1"), Odds: fracs("1 1 1 1")}},
	}
	for _, c := range cases {
		c.want.Risk = frac("1/20")
		got, e := audit.Begin(c.totals, c.winners, frac("1/20"))
		same(t, fmt.Sprint(c.totals, c.winners), got, e, c.want)
	}
}

func TestU2Risk(t *testing.T) {
	for _, c := range risks() {
		got, e := audit.Begin([]int{3, 2}, []int{0}, c.risk)
		if riskModel(c.risk) != c.e {
			t.Errorf("%s: the model tells something else", short(c.risk))
		}
		if c.e != api.OK {
			fails(t, short(c.risk), got, e, c.e)
			continue
		}
		same(t, short(c.risk), got, e, api.Watch{Winners: []int{0}, Losers: []int{1}, Shares: fracs("3/5"), Odds: fracs("1"), Risk: c.risk})
	}
}

func TestU2Wrong(t *testing.T) {
	tenth, bad, high := frac("1/10"), frac("2/20"), frac("2")
	many := func(n int) []int {
		l := make([]int, n)
		for i := range l {
			l[i] = n - i
		}
		return l
	}
	cases := []struct {
		totals, winners []int
		risk            api.Frac
		e               api.Errno
	}{
		{nil, nil, tenth, api.ErrForm}, {nil, []int{0}, tenth, api.ErrForm}, {[]int{5}, nil, tenth, api.ErrForm}, {[]int{5}, []int{0}, tenth, api.ErrForm},
		{many(12), []int{0}, tenth, api.OK}, {many(13), []int{0}, tenth, api.ErrForm},
		{[]int{5, 4}, nil, tenth, api.ErrForm}, {[]int{5, 4}, []int{0, 1}, tenth, api.ErrForm}, {[]int{5, 4, 3}, []int{0, 1}, tenth, api.OK},
		{[]int{5, 4, 3}, []int{0, 0}, tenth, api.ErrForm}, {[]int{5, 4, 3}, []int{3}, tenth, api.ErrForm}, {[]int{5, 4, 3}, []int{-1}, tenth, api.ErrForm},
		{[]int{5, 4, 3}, []int{least}, tenth, api.ErrForm}, {[]int{5, 4, 3}, []int{most}, tenth, api.ErrForm}, {[]int{5, 4, 3}, []int{1 << 32}, tenth, api.ErrForm},
		{[]int{5, -1}, []int{0}, tenth, api.ErrRange}, {[]int{1<<20 + 1, 0}, []int{0}, tenth, api.ErrRange}, {[]int{5, least}, []int{0}, tenth, api.ErrRange}, {[]int{most, 5}, []int{0}, tenth, api.ErrRange},
		{[]int{5, 5}, []int{0}, tenth, api.ErrTie}, {[]int{4, 5}, []int{0}, tenth, api.ErrTie}, {[]int{0, 0}, []int{1}, tenth, api.ErrTie},
		{[]int{9, 4, 5}, []int{0, 1}, tenth, api.ErrTie}, {[]int{9, 5, 5}, []int{1, 0}, tenth, api.ErrTie},
		// The first error that fits.
		{[]int{5, -1}, []int{2}, bad, api.ErrForm}, {[]int{5, -1}, []int{0}, bad, api.ErrRange}, {[]int{-1, -1}, []int{0}, high, api.ErrRange},
		{[]int{5, 5}, []int{0}, bad, api.ErrForm}, {[]int{5, 5}, []int{0}, high, api.ErrRange},
	}
	for _, c := range cases {
		got, e := audit.Begin(c.totals, c.winners, c.risk)
		if c.e != api.OK {
			fails(t, fmt.Sprint(c.totals, c.winners, c.risk), got, e, c.e)
		} else if e != api.OK {
			t.Errorf("%v, %v: error %d", c.totals, c.winners, e)
		}
	}
}

func TestU2Random(t *testing.T) {
	d := dice()
	all := risks()
	seen := map[api.Errno]int{}
	for range 20000 {
		n := 2 + d.IntN(11)
		totals := make([]int, n)
		for i := range totals {
			totals[i] = d.IntN([]int{4, 50, 1<<20 + 1}[d.IntN(3)])
		}
		winners := d.Perm(n)[:1+d.IntN(n-1)]
		if d.IntN(2) == 0 { // those who have the most
			slices.SortFunc(winners, func(a, b int) int { return a - b })
			slices.SortFunc(totals, func(a, b int) int { return b - a })
			for i := range winners {
				winners[i] = i
			}
		}
		switch d.IntN(10) {
		case 0:
			winners[d.IntN(len(winners))] = d.IntN(n+2) - 1
		case 1:
			totals[d.IntN(n)] = []int{-1, 1<<20 + 1}[d.IntN(2)]
		}
		risk := frac("1/20")
		if d.IntN(5) == 0 {
			risk = all[d.IntN(len(all))].risk
		}
		got, e := audit.Begin(totals, winners, risk)
		want, wantE := beginModel(totals, winners, risk)
		seen[wantE]++
		if e != wantE || shown(got) != shown(want) {
			t.Fatalf("%v, %v, %s: %s comes, error %d, not %s, error %d", totals, winners, short(risk), short(got), e, short(want), wantE)
		}
	}
	for _, e := range []api.Errno{api.OK, api.ErrForm, api.ErrRange, api.ErrTie} {
		if seen[e] < 100 {
			t.Errorf("error %d comes %d times", e, seen[e])
		}
	}
}

// The document's example 9, and what settles.
func TestU3Draw(t *testing.T) {
	w := begun(t, []int{60, 30}, []int{0}, "1/2")
	steps := []struct {
		marks   []int
		odds    string
		settled bool
	}{
		{[]int{0, 0}, "1", false}, {[]int{1, 1}, "1", false},
		{[]int{1, 0}, "4/3", false}, {[]int{0, 1}, "8/9", false}, {[]int{1, 0}, "32/27", false}, {[]int{1, 0}, "128/81", false},
		{[]int{1, 0}, "512/243", true},
		{[]int{0, 1}, "512/243", true}, {[]int{1, 0}, "512/243", true}, // what is settled stays so
	}
	for i, s := range steps {
		next, e := audit.Draw(w, s.marks)
		same(t, fmt.Sprint("ballot ", i), next, e, api.Watch{
			Winners: []int{0}, Losers: []int{1}, Shares: fracs("2/3"), Odds: fracs(s.odds), Risk: frac("1/2"), Drawn: i + 1})
		if audit.Settled(next) != s.settled {
			t.Errorf("ballot %d: settled is %t", i, !s.settled)
		}
		w = next
	}
}

// Odds that are 1 / Risk are not below it.
func TestU3JustEnough(t *testing.T) {
	for _, c := range []struct {
		odds, risk string
		settled    bool
	}{
		{"10", "1/10", true}, {"99/10", "1/10", false}, {"101/10", "1/10", true}, {"1", "1", true}, {"0", "1", false},
		{"999/1000", "1", false}, {"3/2", "2/3", true}, {"149/100", "2/3", false}, {"1" + zeros(6000), "1/1" + zeros(99), true},
	} {
		w := api.Watch{Winners: []int{1}, Losers: []int{0}, Shares: fracs("3/4"), Odds: fracs(c.odds), Risk: frac(c.risk)}
		if audit.Settled(w) != c.settled {
			t.Errorf("odds of %.20s with a risk of %.20s: settled is %t", c.odds, c.risk, !c.settled)
		}
		next, e := audit.Draw(w, []int{0, 1})
		want, _ := drawModel(w, []int{0, 1})
		same(t, c.odds, next, e, want)
		if c.settled && next.Odds[0] != w.Odds[0] {
			t.Errorf("odds of %.20s go on to %s", c.odds, short(next.Odds[0]))
		}
	}
}

// Each pair goes on by itself; what is settled does not, while others do.
func TestU3Pairs(t *testing.T) {
	w := begun(t, []int{90, 10, 60, 40}, []int{0, 2}, "1/3")
	for range 2 {
		w, _ = audit.Draw(w, []int{1, 0, 1, 0})
	}
	same(t, "two ballots for both winners", w.Odds, api.OK, fracs("81/25 324/169 144/49 36/25"))
	w, e := audit.Draw(w, []int{0, 1, 1, 1})
	same(t, "one for a winner and both losers", w.Odds, e, fracs("81/25 2592/2197 144/49 36/25"))
	if audit.Settled(w) {
		t.Error("it is settled, and one pair is")
	}
}

// A share of 1: odds fall to nothing, and stay so.
func TestU3Nothing(t *testing.T) {
	w := begun(t, []int{5, 0}, []int{0}, "1/8")
	for i, s := range []struct {
		mark int
		odds string
	}{{0, "2"}, {0, "4"}, {1, "0"}, {0, "0"}, {1, "0"}} {
		marks := []int{0, 0}
		marks[s.mark] = 1
		next, e := audit.Draw(w, marks)
		same(t, fmt.Sprint("ballot ", i), next.Odds, e, fracs(s.odds))
		w = next
	}
	if audit.Settled(w) {
		t.Error("odds of nothing are settled")
	}
}

func TestU3Marks(t *testing.T) {
	w := begun(t, []int{60, 30}, []int{0}, "1/2")
	for n := range 15 {
		got, e := audit.Draw(w, make([]int, n))
		if n < 2 || n > 12 {
			fails(t, fmt.Sprint(n, " marks"), got, e, api.ErrForm)
		} else if e != api.OK {
			t.Errorf("%d marks: error %d", n, e)
		}
	}
	for place := range 12 {
		for _, m := range []int{-1, 2, 256, 1 << 32, least, most} {
			marks := make([]int, 12)
			marks[place] = m
			got, e := audit.Draw(w, marks)
			fails(t, fmt.Sprint(m, " at ", place), got, e, api.ErrForm)
		}
	}
	got, e := audit.Draw(w, make([]int, 1<<20))
	fails(t, "very many marks", got, e, api.ErrForm)
}

// faultsOfWatches are what may be wrong with a watch: Draw answers ErrForm.
func faultsOfWatches() map[string]func(w *api.Watch) {
	out := map[string]func(w *api.Watch){
		"no losers":          func(w *api.Watch) { w.Losers = nil },
		"no shares":          func(w *api.Watch) { w.Shares = nil },
		"no odds":            func(w *api.Watch) { w.Odds = nil },
		"no winners":         func(w *api.Watch) { w.Winners = nil },
		"a winner more":      func(w *api.Watch) { w.Winners = append(w.Winners, 0) },
		"a loser more":       func(w *api.Watch) { w.Losers = append(w.Losers, 0) },
		"a share more":       func(w *api.Watch) { w.Shares = append(w.Shares, frac("2/3")) },
		"odds more":          func(w *api.Watch) { w.Odds = append(w.Odds, frac("1")) },
		"an odd share first": func(w *api.Watch) { w.Shares[0] = frac("1/2") },
	}
	for _, place := range []int{-1, 12, 13, 1 << 32, least, most} {
		out[fmt.Sprint("a winner at ", place)] = func(w *api.Watch) { w.Winners[1] = place }
		out[fmt.Sprint("a loser at ", place)] = func(w *api.Watch) { w.Losers[1] = place }
	}
	for _, s := range []string{
		"1/2", "0", "1/3", "2", "3/2", "4/6", "2/2", "6/4", "1/0", "", "02/3", "2/03", "-2/3", "2/3 ", "2/x",
		"1" + zeros(100) + "/1" + zeros(99) + "1", "1/2" + zeros(99), "5" + zeros(99) + "/1" + zeros(100),
		strings.Repeat("6", 101) + "/" + strings.Repeat("6", 100) + "7",
	} {
		out["the share "+s] = func(w *api.Watch) { w.Shares[1] = frac(s) }
	}
	for _, s := range []string{
		"", "1/0", "0/0", "0/2", "2/2", "6/4", "21/14", "01", "1/01", "-1", "1/-1", "1.5", " 1", "1 ", "x/3", "4/3\x00",
		"2" + zeros(5000) + "/3" + zeros(5000), strings.Repeat("3", 9000) + "/" + strings.Repeat("3", 4500), "0" + zeros(5000), "1/" + zeros(5000),
	} {
		out["the odds "+s] = func(w *api.Watch) { w.Odds[1] = frac(s) }
	}
	for _, c := range risks() {
		if c.e != api.OK {
			out["the risk "+c.risk.Num+"/"+c.risk.Den] = func(w *api.Watch) { w.Risk = c.risk }
		}
	}
	return out
}

func TestU3Wrong(t *testing.T) {
	right := begun(t, []int{90, 10, 60, 40}, []int{0, 2}, "1/3")
	high := clone(right)
	high.Odds = fracs("4 4 4 4")
	marks := make([]int, 12)
	for what, do := range faultsOfWatches() {
		for _, w := range []api.Watch{clone(right), clone(high)} {
			do(&w)
			if !misfit(w, 12) {
				t.Errorf("%.60q: the model tells nothing", what)
			}
			got, e := audit.Draw(w, marks)
			fails(t, fmt.Sprintf("%.60q", what), got, e, api.ErrForm)
			w.Drawn = 1024
			got, e = audit.Draw(w, marks)
			fails(t, fmt.Sprintf("%.60q, too many", what), got, e, api.ErrForm)
			if audit.Settled(w) {
				t.Errorf("%.60q: it is settled", what)
			}
		}
	}
	got, e := audit.Draw(api.Watch{}, marks)
	fails(t, "nothing", got, e, api.ErrForm)
}

// Places must be among the marks that are handed in; Settled asks for some marks, so for twelve.
func TestU3Places(t *testing.T) {
	for place := range 12 {
		for _, w := range []api.Watch{
			{Winners: []int{place}, Losers: []int{0}, Shares: fracs("2/3"), Odds: fracs("5"), Risk: frac("1/3")},
			{Winners: []int{0}, Losers: []int{place}, Shares: fracs("2/3"), Odds: fracs("5"), Risk: frac("1/3")},
		} {
			for n := 2; n <= 12; n++ {
				got, e := audit.Draw(w, make([]int, n))
				if place >= n {
					fails(t, fmt.Sprint(place, " of ", n), got, e, api.ErrForm)
				} else if e != api.OK {
					t.Errorf("%d of %d: error %d", place, n, e)
				}
			}
			if !audit.Settled(w) {
				t.Errorf("place %d: it is not settled", place)
			}
		}
	}
}

func TestU3Long(t *testing.T) {
	w := begun(t, []int{60, 30}, []int{0}, "1/2")
	for _, drawn := range []int{least, -1, 0, 1, 1022, 1023, 1024, 1025, 1 << 32, most} {
		w.Drawn = drawn
		got, e := audit.Draw(w, []int{0, 0})
		if drawn < 0 || drawn > 1023 {
			fails(t, fmt.Sprint(drawn, " drawn"), got, e, api.ErrLong)
		} else if e != api.OK || got.Drawn != drawn+1 {
			t.Errorf("%d drawn: error %d, %d are drawn", drawn, e, got.Drawn)
		}
		w.Odds = fracs("3")
		if !audit.Settled(w) {
			t.Errorf("%d drawn: it is not settled", drawn)
		}
	}
}

// Without pairs there is nothing that is not settled.
func TestU3NoPairs(t *testing.T) {
	for _, w := range []api.Watch{{Risk: frac("1/2")}, {Risk: frac("1/2"), Winners: []int{}, Losers: []int{}, Shares: []api.Frac{}, Odds: []api.Frac{}}} {
		got, e := audit.Draw(w, []int{1, 0})
		same(t, "no pairs", got, e, api.Watch{Risk: frac("1/2"), Drawn: 1})
		if !audit.Settled(w) {
			t.Error("it is not settled")
		}
	}
}

// A winner may be the loser, of a watch that was made by hand; there may be many pairs, too.
func TestU3ByHand(t *testing.T) {
	w := api.Watch{Risk: frac("1/1000")}
	for i := range 500 {
		w.Winners, w.Losers = append(w.Winners, i%5), append(w.Losers, i%7)
		w.Shares, w.Odds = append(w.Shares, frac(fmt.Sprintf("%d/%d", i+501, i+502))), append(w.Odds, frac(fmt.Sprintf("%d/%d", i, i+1)))
	}
	for _, marks := range [][]int{{1, 0, 0, 1, 1, 0, 0}, {0, 1, 1, 0, 0, 1, 1, 0}, make([]int, 7)} {
		got, e := audit.Draw(w, marks)
		want, _ := drawModel(w, marks)
		same(t, fmt.Sprint(marks), got, e, want)
		w = got
	}
}

// anyWatch is one that was begun, or odds that are anything.
func anyWatch(d *rand.Rand) api.Watch {
	n := 2 + d.IntN(5)
	winners := d.Perm(n)[:1+d.IntN(n-1)]
	totals := make([]int, n)
	for i := range totals {
		totals[i] = d.IntN(30)
		if slices.Contains(winners, i) {
			totals[i] += 30 + d.IntN(1000)
		}
	}
	w, _ := beginModel(totals, winners, told(rat(frac(fmt.Sprintf("%d/%d", 1+d.IntN(30), 30+d.IntN(300))))))
	w.Drawn = d.IntN(1026) - 1
	for i := range w.Odds {
		if d.IntN(3) == 0 {
			w.Odds[i] = told(rat(frac(fmt.Sprintf("%d/%d", d.IntN(100000), 1+d.IntN(20000)))))
		}
	}
	return w
}

func TestU3Random(t *testing.T) {
	d := dice()
	var faults []func(w *api.Watch)
	byName := faultsOfWatches()
	names := make([]string, 0, len(byName))
	for name := range byName {
		names = append(names, name)
	}
	slices.Sort(names)
	for _, name := range names {
		faults = append(faults, byName[name])
	}
	for range 4000 {
		w := anyWatch(d)
		if d.IntN(5) == 0 && len(w.Winners) > 1 {
			faults[d.IntN(len(faults))](&w)
		}
		for range 1 + d.IntN(12) {
			marks := make([]int, 2+d.IntN(11))
			for i := range marks {
				marks[i] = d.IntN(2)
			}
			got, e := audit.Draw(w, marks)
			want, wantE := drawModel(w, marks)
			if e != wantE || shown(got) != shown(want) {
				t.Fatalf("%s, %v: %s comes, error %d, not %s, error %d", short(w), marks, short(got), e, short(want), wantE)
			}
			if audit.Settled(w) != settledModel(w) {
				t.Fatalf("%s: settled is %t", short(w), !settledModel(w))
			}
			if e == api.OK {
				w = got
			}
		}
	}
}

// Odds have many more digits than chapter 2 takes, when all is drawn that may be.
func TestU3ManyDigits(t *testing.T) {
	w := begun(t, []int{1048575, 1048576, 1000003}, []int{1}, "1/1"+zeros(99))
	want := clone(w)
	for i := range 1024 {
		marks := []int{(i + 1) % 2, i % 2, (i + 1) % 2 * (i % 3 % 2)}
		var e api.Errno
		w, e = audit.Draw(w, marks)
		if e != api.OK {
			t.Fatalf("ballot %d: error %d", i, e)
		}
		want, _ = drawModel(want, marks)
		if i%100 == 0 || i > 1020 {
			same(t, fmt.Sprint("ballot ", i), w, e, want)
		}
	}
	if len(w.Odds[0].Num) <= 4000 || len(w.Odds[1].Den) <= 4000 {
		t.Errorf("%d and %d digits come", len(w.Odds[0].Num), len(w.Odds[1].Den))
	}
	got, e := audit.Draw(w, []int{0, 0, 0})
	fails(t, "one more", got, e, api.ErrLong)
}

// Odds of any length are taken, whatever their divisors are, and those that are no fraction are not.
func TestU3AnyLength(t *testing.T) {
	share := "7" + zeros(97) + "01/9" + zeros(98) + "1"
	nines := strings.Repeat("9", 7000)
	for _, s := range []string{
		"1/1" + zeros(20000), "1" + zeros(20000), "1" + zeros(7000) + "/" + nines, nines + "/1" + zeros(7000), nines + "/1" + zeros(3) + nines,
		"2" + zeros(7000) + "/" + nines, "9" + zeros(7000) + "/" + nines, nines + "/" + nines, "7/" + strings.Repeat("7", 5001),
	} {
		for _, by := range []string{"3/4", "2/3", "1", "8/9", share, "5" + zeros(98) + "1/9" + strings.Repeat("7", 98) + "8"} {
			w := api.Watch{Winners: []int{0}, Losers: []int{1}, Shares: fracs(by), Odds: fracs(s), Risk: frac("1/1" + zeros(99))}
			for _, marks := range [][]int{{1, 0}, {0, 1}, {1, 1}} {
				got, e := audit.Draw(w, marks)
				want, wantE := drawModel(w, marks)
				if e != wantE || shown(got) != shown(want) {
					t.Errorf("%.10s (%d bytes), share %.10s: %s comes, error %d, not error %d", s, len(s), by, short(got), e, wantE)
				}
			}
			if audit.Settled(w) != settledModel(w) {
				t.Errorf("%.10s (%d bytes): settled is %t", s, len(s), !settledModel(w))
			}
		}
	}
}

// Odds whose divisors are those of the share, and others: in lowest terms, or not.
func TestU3LowestTerms(t *testing.T) {
	d := dice()
	product := func() *big.Int {
		n := big.NewInt(1)
		for range d.IntN(4) {
			prime := big.NewInt([]int64{2, 3, 5, 7, 1000003}[d.IntN(5)])
			n.Mul(n, prime.Exp(prime, big.NewInt(int64(1+d.IntN(40))), nil))
		}
		return n
	}
	seen := [2]int{}
	for range 5000 {
		odds := api.Frac{Num: product().String(), Den: product().String()}
		share := fracs("2/3 3/4 3/5 5/6 5/8 11/12 25/36 1 8/15 1000003/1000004 1000002/1000003")[d.IntN(11)]
		w := api.Watch{Winners: []int{0}, Losers: []int{1}, Shares: []api.Frac{share}, Odds: []api.Frac{odds}, Risk: frac("1/1" + zeros(99))}
		got, e := audit.Draw(w, []int{d.IntN(2), d.IntN(2)})
		if (e == api.OK) != isFraction(odds) || (e == api.ErrForm) == isFraction(odds) {
			t.Fatalf("%s, share %s: %s comes, error %d", short(odds), short(share), short(got), e)
		}
		if e == api.OK {
			seen[0]++
		} else {
			seen[1]++
		}
	}
	if seen[0] < 500 || seen[1] < 500 {
		t.Errorf("%d are right, %d are not", seen[0], seen[1])
	}
}

func TestE2Watch(t *testing.T) {
	totals, winners := roomy([]int{90, 10, 60, 40}), roomy([]int{0, 2})
	w, _ := audit.Begin(totals, winners, frac("1/3"))
	if !slices.Equal(whole(totals), []int{90, 10, 60, 40, 0, 0, 0}) || !slices.Equal(whole(winners), []int{0, 2, 0, 0, 0}) {
		t.Error("Begin changes what is handed in")
	}
	was := clone(w)
	clear(whole(totals))
	clear(whole(winners))
	same(t, "what Begin has answered", w, api.OK, was)

	for _, marks := range [][]int{{1, 0, 1, 0}, {0, 0, 0, 0}, {0, 1, 0, 1}} {
		in, m := roomyWatch(w), roomy(marks)
		before := wholeWatch(roomyWatch(w))
		next, e := audit.Draw(in, m)
		audit.Settled(in)
		if !alike(wholeWatch(in), before) || !slices.Equal(whole(m), append(slices.Clone(marks), 0, 0, 0)) {
			t.Error("Draw changes what is handed in")
		}
		want, _ := drawModel(w, marks)
		spoil(in)
		clear(whole(m))
		same(t, "behind a change of what was handed in", next, e, want)
		// and no two lists of what is answered share memory
		again, _ := audit.Draw(w, marks)
		spoil(next)
		same(t, "behind a change of what was answered", again, e, want)
		w = again
	}
}
