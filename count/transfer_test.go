package count_test

import (
	"fmt"
	"math/big"
	"math/rand/v2"
	"slices"
	"testing"

	"hustings/api"
	"hustings/count"
)

// three is a contest with three options.
func three(seats int) api.Contest { return contestOf(api.RuleTransfer, 3, seats) }

func TestK2Quota(t *testing.T) {
	ballots := slices.Concat(times(9, 1, 2, 3), times(9, 3, 2, 1))
	for seats, want := range []string{1: "9", 2: "6", 3: "9/2"} {
		if seats == 0 {
			continue
		}
		got, e := count.Transfer(three(seats), ballots, "lots")
		same(t, fmt.Sprint(seats, " seats"), got.Quota, e, frac(want))
	}
	got, e := count.Transfer(three(2), slices.Concat(ballots, times(1, 0, 0, 0), times(2, 1, 1, 0), times(2, 0, 2, 0)), "lots")
	same(t, "blank ones", got.Quota, e, frac("6"))
	got, e = count.Transfer(three(2), ballots[:16], "lots")
	same(t, "16 ballots", got.Quota, e, frac("16/3"))
}

// TestK2Words: counts that were done by hand.
func TestK2Words(t *testing.T) {
	drawn, _ := count.Lots(three(1), "lots")
	cases := []struct {
		name    string
		seats   int
		ballots [][]int
		want    api.Transferred
	}{
		{"more than half", 1, slices.Concat(times(3, 1, 0, 0), times(2, 0, 1, 0)), api.Transferred{
			Quota:   frac("5/2"),
			Rounds:  []api.Round{round(api.RoundElect, []int{0}, "3 2 0 0")},
			Elected: []int{0},
		}},
		{"a surplus", 2, slices.Concat(times(7, 1, 2, 0), times(2, 0, 0, 1)), api.Transferred{
			Quota: frac("3"),
			Rounds: []api.Round{
				round(api.RoundElect, []int{0}, "7 0 2 0"),
				round(api.RoundTransfer, []int{0}, "7 0 2 0"),
				round(api.RoundElect, []int{1}, "3 4 2 0"),
			},
			Elected: []int{0, 1},
		}},
		{"part of a surplus is exhausted", 2, slices.Concat(times(2, 1, 2, 0), times(5, 1, 0, 0), times(2, 0, 0, 1)), api.Transferred{
			Quota: frac("3"),
			Rounds: []api.Round{
				round(api.RoundElect, []int{0}, "7 0 2 0"),
				round(api.RoundTransfer, []int{0}, "7 0 2 0"),
				round(api.RoundExclude, []int{1}, "3 8/7 2 20/7"),
				round(api.RoundFill, []int{2}, "3 0 2 4"),
			},
			Elected: []int{0, 2},
		}},
		{"two at once", 2, slices.Concat(times(4, 0, 1, 0), times(5, 1, 0, 0)), api.Transferred{
			Quota:   frac("3"),
			Rounds:  []api.Round{round(api.RoundElect, []int{0, 1}, "5 4 0 0")},
			Elected: []int{0, 1},
		}},
		{"as many seats as options", 3, slices.Concat(times(2, 0, 1, 0), times(1, 0, 0, 1)), api.Transferred{
			Quota: frac("3/4"),
			Rounds: []api.Round{
				round(api.RoundElect, []int{1, 2}, "0 2 1 0"),
				round(api.RoundFill, []int{0}, "0 2 1 0"),
			},
			Elected: []int{1, 2, 0},
		}},
		{"no ballots", 2, nil, api.Transferred{
			Quota: frac("0"),
			Rounds: []api.Round{
				round(api.RoundExclude, drawn[2:], "0 0 0 0"),
				round(api.RoundFill, drawn[:2], "0 0 0 0"),
			},
			Elected: drawn[:2],
		}},
	}
	for _, k := range cases {
		got, e := count.Transfer(three(k.seats), k.ballots, "lots")
		same(t, k.name, got, e, k.want)
		same(t, k.name+", by the model", transferModel(three(k.seats), k.ballots, "lots"), api.OK, k.want)
	}
}

// TestK2TheQuotaIsNotAboveItself: who has just the quota is not elected by it.
func TestK2TheQuotaIsNotAboveItself(t *testing.T) {
	c := contestOf(api.RuleTransfer, 2, 1)
	drawn, _ := count.Lots(c, "lots")
	alone, both := [][]int{{1, 0}, {0, 1}}, [][]int{{1, 2}, {2, 1}}
	got, e := count.Transfer(c, alone, "lots")
	want := api.Transferred{Quota: frac("1"), Elected: drawn[:1]}
	want.Rounds = []api.Round{round(api.RoundExclude, drawn[1:], "1 1 0"), round(api.RoundFill, drawn[:1], place(drawn[0], "1", "0")+" 1")}
	same(t, "their ballots end there", got, e, want)
	got, e = count.Transfer(c, both, "lots")
	want.Rounds = []api.Round{round(api.RoundExclude, drawn[1:], "1 1 0"), round(api.RoundElect, drawn[:1], place(drawn[0], "2", "0")+" 0")}
	same(t, "their ballots go on", got, e, want)
}

// place is two totals, the first one that of the option.
func place(option int, its, other string) string {
	if option == 0 {
		return its + " " + other
	}
	return other + " " + its
}

// TestK2Lots: of those with the same total whoever is drawn first is elected first and goes on first; the last one is out.
func TestK2Lots(t *testing.T) {
	for _, lots := range []string{"lots", "other", "", "x", "y", "z"} {
		c := contestOf(api.RuleTransfer, 6, 3)
		drawn, _ := count.Lots(c, lots)
		var ballots [][]int
		for _, i := range drawn[:2] { // two have more than the quota, both the same
			b := make([]int, 6)
			b[i] = 1
			ballots = append(ballots, times(4, b...)...)
		}
		got, e := count.Transfer(c, ballots, lots)
		var do []int
		var who [][]int
		for _, r := range got.Rounds {
			do, who = append(do, r.Do), append(who, r.Who)
		}
		same(t, lots+": what is done", do, e, []int{
			api.RoundElect, api.RoundTransfer, api.RoundTransfer, api.RoundExclude, api.RoundExclude, api.RoundExclude, api.RoundFill})
		same(t, lots+": with whom", who, e, [][]int{drawn[:2], drawn[:1], drawn[1:2], drawn[5:], drawn[4:5], drawn[3:4], drawn[2:3]})
	}
}

func TestK2Random(t *testing.T) {
	d := dice()
	for range 3000 {
		c := anyContest(d, 12)
		ballots := anyBallots(d, len(c.Options), d.IntN(40))
		got, e := count.Transfer(c, ballots, "lots")
		same(t, shown(c)+shown(ballots), got, e, transferModel(c, ballots, "lots"))
		whole(t, c, got, len(ballots)-blanks(c, ballots))
	}
}

// blanks is how many ballots are blank.
func blanks(c api.Contest, ballots [][]int) int {
	n := 0
	for _, b := range ballots {
		if blankModel(c, true, b) {
			n++
		}
	}
	return n
}

// whole looks whether as many are elected as there are seats, none twice, and no vote is lost in any round.
func whole(t *testing.T, c api.Contest, told api.Transferred, n int) {
	t.Helper()
	who := slices.Sorted(slices.Values(told.Elected))
	if len(who) != c.Seats || len(slices.Compact(who)) != c.Seats {
		t.Errorf("elected are %v, of %d seats", told.Elected, c.Seats)
	}
	for _, r := range told.Rounds {
		sum := ratOf(r.Exhausted)
		for _, f := range r.Totals {
			sum.Add(sum, ratOf(f))
		}
		if sum.Cmp(big.NewRat(int64(n), 1)) != 0 {
			t.Errorf("%d ballots have the weight %v", n, sum)
		}
	}
}

func ratOf(f api.Frac) *big.Rat {
	num, _ := new(big.Int).SetString(f.Num, 10)
	den, _ := new(big.Int).SetString(f.Den, 10)
	return new(big.Rat).SetFrac(num, den)
}

// TestK2Order: what comes hangs neither on the order of the ballots nor on those that are blank.
func TestK2Order(t *testing.T) {
	d := dice()
	for range 200 {
		c := anyContest(d, 12)
		ballots := anyBallots(d, len(c.Options), 60)
		first, _ := count.Transfer(c, ballots, "lots")
		ballots = slices.Concat(ballots, times(5, make([]int, len(c.Options))...), times(2, slices.Repeat([]int{2}, len(c.Options))...))
		d.Shuffle(len(ballots), func(i, k int) { ballots[i], ballots[k] = ballots[k], ballots[i] })
		got, e := count.Transfer(c, ballots, "lots")
		same(t, shown(c), got, e, first)
	}
}

// TestK2WhateverTheRule: the numbers are ranks by all rules, whatever Most is.
func TestK2WhateverTheRule(t *testing.T) {
	d := dice()
	c := contestOf(api.RuleTransfer, 5, 2)
	ballots := anyBallots(d, 5, 100)
	want, _ := count.Transfer(c, ballots, "lots")
	for _, rule := range rules {
		for _, marks := range []int{-1, 0, 1, 5} {
			c.Rule, c.Most = rule, marks
			got, e := count.Transfer(c, ballots, "lots")
			same(t, fmt.Sprint("rule ", rule, ", most ", marks), got, e, want)
		}
	}
}

// TestK2Coalitions: those who all rank the same options ahead of all others, and are more than k quotas, elect k of these.
func TestK2Coalitions(t *testing.T) {
	d := dice()
	for range 500 {
		c := contestOf(api.RuleTransfer, 3+d.IntN(10), 1)
		options := len(c.Options)
		c.Seats = 1 + d.IntN(options)
		size := 1 + d.IntN(options)
		friends := d.Perm(options)[:size]
		var ballots [][]int
		together, others := d.IntN(60), d.IntN(40)
		for range together {
			ballots = append(ballots, anyFriend(d, options, friends))
		}
		for range others {
			ballots = append(ballots, anyRanks(d, options))
		}
		n := len(ballots) - blanks(c, ballots)
		got, e := count.Transfer(c, ballots, "lots")
		elected := 0
		for _, i := range got.Elected {
			if slices.Contains(friends, i) {
				elected++
			}
		}
		k := 0
		for k < size && together*(c.Seats+1) > (k+1)*n {
			k++
		}
		if e != api.OK || elected < min(k, c.Seats) {
			t.Errorf("%d of %d ballots are for %v, %d seats: elected are %v", together, n, friends, c.Seats, got.Elected)
		}
	}
}

// anyFriend ranks all friends ahead of all others.
func anyFriend(d *rand.Rand, options int, friends []int) []int {
	b := make([]int, options)
	for rank, i := range d.Perm(len(friends)) {
		b[friends[i]] = rank + 1
	}
	rank := len(friends)
	for _, i := range d.Perm(options) {
		if b[i] == 0 && d.IntN(3) > 0 {
			rank++
			b[i] = rank
		}
	}
	return b
}

// chain are ballots on which surpluses go on and on, from one option to the next, a few of them by other ways: weights get
// twice as long each time.
func chain(d *rand.Rand, options, n int) [][]int {
	var out [][]int
	for k := range n {
		first := 0
		if k%10 == 0 {
			first = d.IntN(options - 1)
		}
		order := []int{first}
		for i := range options {
			if i != first {
				order = append(order, i)
			}
		}
		if d.IntN(10) == 0 {
			i := 1 + d.IntN(options-2)
			order[i], order[i+1] = order[i+1], order[i]
		}
		b := make([]int, options)
		for rank, i := range order {
			b[i] = rank + 1
		}
		out = append(out, b)
	}
	return out
}

// TestK2Long: totals with more digits than nat takes come out without an error.
func TestK2Long(t *testing.T) {
	d := dice()
	c := contestOf(api.RuleTransfer, 12, 11)
	longest := 0
	for range 6 {
		ballots := chain(d, 12, 4093)
		got, e := count.Transfer(c, ballots, "lots")
		if shown(got) != shown(transferModel(c, ballots, "lots")) || e != api.OK {
			t.Error("another count comes, error", e)
		}
		whole(t, c, got, 4093)
		for _, r := range got.Rounds {
			for _, f := range append(r.Totals, r.Exhausted) {
				longest = max(longest, len(f.Num), len(f.Den))
			}
		}
	}
	if longest <= 4000 {
		t.Error("the longest number has but", longest, "digits")
	}
}

// TestK2Many: as many ballots as there may be, of as many different ways as there can be, take no time to speak of.
func TestK2Many(t *testing.T) {
	d := dice()
	for _, seats := range []int{1, 5, 11, 12} {
		c := contestOf(api.RuleTransfer, 12, seats)
		var ballots [][]int
		for set := range 4096 { // each set of options once, and the first one ahead of most
			b := make([]int, 12)
			rank := 0
			for i := range 12 {
				if set>>i&1 == 1 || i == 0 && d.IntN(4) > 0 {
					rank++
					b[i] = rank
				}
			}
			ballots = append(ballots, b)
		}
		got, e := count.Transfer(c, ballots, "lots")
		if shown(got) != shown(transferModel(c, ballots, "lots")) || e != api.OK {
			t.Error("another count comes, error", e)
		}
	}
}

// TestK2WrongBallots: by each call that takes ballots.
func TestK2WrongBallots(t *testing.T) {
	good := times(4096, 1, 2, 0)
	cases := []struct {
		name    string
		ballots [][]int
		want    api.Errno
	}{
		{"4096", good, api.OK},
		{"4097", times(4097, 1, 2, 0), api.ErrLong},
		{"4097 blank ones", times(4097, 0, 0, 0), api.ErrLong},
		{"4097, one too short", append(times(4096, 1, 2, 0), []int{1}), api.ErrLong},
		{"two numbers", [][]int{{1, 0}}, api.ErrForm},
		{"four numbers", [][]int{{1, 0, 0, 0}}, api.ErrForm},
		{"none", [][]int{nil}, api.ErrForm},
		{"the last one", append(times(4095, 1, 2, 0), []int{0, 0}), api.ErrForm},
		{"the first one", append([][]int{{}}, good[:10]...), api.ErrForm},
	}
	for _, k := range cases {
		for _, rule := range rules {
			c := contestOf(rule, 3, 1)
			if got, e := count.Transfer(c, k.ballots, "lots"); k.want != api.OK || e != api.OK {
				fails(t, "Transfer: "+k.name, got, e, k.want)
			}
			if got, e := count.Pairs(c, k.ballots); k.want != api.OK || e != api.OK {
				fails(t, "Pairs: "+k.name, got, e, k.want)
			}
			if got, e := count.Elect(c, k.ballots, "lots"); k.want != api.OK || e != api.OK {
				fails(t, "Elect: "+k.name, got, e, k.want)
			}
		}
	}
}

// TestK2Blank: numbers that are no ranks, however far they are off.
func TestK2Blank(t *testing.T) {
	c := three(1)
	want, _ := count.Transfer(c, [][]int{{0, 1, 0}}, "lots")
	for _, b := range [][]int{{0, 0, 0}, {1, 1, 0}, {2, 0, 0}, {1, 3, 0}, {-1, 1, 2}, {-1, 0, 0}, {most, 1, 2}, {least, 0, 1}, {4, 1, 2}, {1, 2, 2}} {
		got, e := count.Transfer(c, [][]int{b, {0, 1, 0}}, "lots")
		same(t, shown(b), got, e, want)
		pairs, e := count.Pairs(c, [][]int{b})
		same(t, shown(b), pairs, e, [][]int{{0, 0, 0}, {0, 0, 0}, {0, 0, 0}})
	}
}

// TestE2Transfer: what is handed in is only read; what comes shares no memory with it, and no two lists of it do.
func TestE2Transfer(t *testing.T) {
	d := dice()
	c := contestOf(api.RuleTransfer, 6, 4)
	was := anyBallots(d, 6, 50)
	ballots := roomy(was)
	got, e := count.Transfer(c, ballots, "lots")
	want := transferModel(c, was, "lots")
	same(t, "Transfer", got, e, want)
	untouched(t, "Transfer", ballots, was)
	for i := range got.Rounds {
		r := &got.Rounds[i]
		spoil(r.Who, -7)
		spoil(r.Totals, api.Frac{Num: "spoilt"})
		same(t, fmt.Sprint("round ", i, " is spoilt"), got.Rounds[i+1:], api.OK, want.Rounds[i+1:])
	}
	same(t, "the rounds are spoilt", got.Elected, api.OK, want.Elected)
	spoil(got.Elected, -7)
	untouched(t, "what came is spoilt", ballots, was)
	again, e := count.Transfer(c, ballots, "lots")
	same(t, "again", again, e, want)
}

// spoil fills a list, and its spare room.
func spoil[T any](l []T, with T) {
	l = l[:cap(l)]
	for i := range l {
		l[i] = with
	}
}

// TestE3Transfer: nil and a list without entries are the same.
func TestE3Transfer(t *testing.T) {
	for _, rule := range rules {
		c := contestOf(rule, 4, 2)
		for _, ballots := range [][][]int{nil, {}} {
			got, e := count.Transfer(c, ballots, "lots")
			same(t, "Transfer", got, e, transferModel(c, nil, "lots"))
			pairs, e := count.Pairs(c, ballots)
			same(t, "Pairs", pairs, e, pairsModel(c, nil))
			who, e := count.Elect(c, ballots, "lots")
			same(t, "Elect", who, e, electModel(c, nil, "lots"))
		}
	}
}
