package count_test

import (
	"fmt"
	"math/rand/v2"
	"reflect"
	"slices"
	"strings"
	"testing"

	"hustings/api"
)

// The edges of int.
const (
	least = -1 << 63
	most  = 1<<63 - 1
)

// rules are all that there are.
var rules = []int{api.RulePlural, api.RuleApproval, api.RuleTransfer, api.RulePairs}

// dice is a row of numbers that is the same each time.
func dice() *rand.Rand { return rand.New(rand.NewPCG(13, 1)) }

// contestOf is one with so many options.
func contestOf(rule, options, seats int) api.Contest {
	c := api.Contest{Name: "council", Rule: rule, Seats: seats, Most: 1}
	for i := range options {
		c.Options = append(c.Options, fmt.Sprint("option ", i))
	}
	return c
}

// anyContest is some contest that nothing is wrong with, with up to so many options.
func anyContest(d *rand.Rand, options int) api.Contest {
	n := 1 + d.IntN(options)
	c := contestOf(rules[d.IntN(4)], n, 1+d.IntN(n))
	c.Name = fmt.Sprint("contest ", d.IntN(50))
	c.Most = d.IntN(n+3) - 1
	return c
}

// anyRanks are ranks of so many options, not always of all of them.
func anyRanks(d *rand.Rand, options int) []int {
	b := make([]int, options)
	for rank, option := range d.Perm(options)[:d.IntN(options+1)] {
		b[option] = rank + 1
	}
	return b
}

// anyMarks are marks for some options.
func anyMarks(d *rand.Rand, options int) []int {
	b := make([]int, options)
	for i := range b {
		b[i] = d.IntN(2)
	}
	return b
}

// anyBallots are ranks, marks, and ballots that are neither.
func anyBallots(d *rand.Rand, options, n int) [][]int {
	var out [][]int
	for range n {
		b := anyRanks(d, options)
		if d.IntN(4) == 0 {
			b = anyMarks(d, options)
		}
		if d.IntN(10) == 0 {
			b[d.IntN(options)] = []int{-1, 0, 1, 2, options + 1, least, most}[d.IntN(7)]
		}
		out = append(out, b)
	}
	return out
}

// times is a ballot so many times.
func times(n int, b ...int) [][]int {
	var out [][]int
	for range n {
		out = append(out, b)
	}
	return out
}

// frac is a fraction that is written as num/den, or as num alone.
func frac(text string) api.Frac {
	num, den, broken := strings.Cut(text, "/")
	if !broken {
		den = "1"
	}
	return api.Frac{Num: num, Den: den}
}

// round is one, with its totals and what is exhausted in one text.
func round(do int, who []int, totals string) api.Round {
	r := api.Round{Do: do, Who: who}
	for _, s := range strings.Fields(totals) {
		r.Totals = append(r.Totals, frac(s))
	}
	last := len(r.Totals) - 1
	r.Totals, r.Exhausted = r.Totals[:last], r.Totals[last]
	return r
}

// wrongContests are all kinds of contests that have the wrong form.
func wrongContests() map[string]api.Contest {
	out := map[string]api.Contest{
		"nothing":           {},
		"no options":        contestOf(api.RulePlural, 0, 0),
		"a seat, no option": contestOf(api.RulePlural, 0, 1),
		"thirteen options":  contestOf(api.RuleTransfer, 13, 1),
		"many options":      contestOf(api.RulePairs, 5000, 1),
	}
	for _, rule := range []int{0, 5, -1, 257, 1<<32 + 1, least, most} {
		out[fmt.Sprint("rule ", rule)] = contestOf(rule, 4, 1)
	}
	for _, seats := range []int{0, -1, 5, 13, 1<<32 + 1, least, most} {
		for _, rule := range rules {
			out[fmt.Sprint("seats ", seats, ", rule ", rule)] = contestOf(rule, 4, seats)
		}
	}
	return out
}

// roomy are lists with spare room behind them, and behind each of them.
func roomy(l [][]int) [][]int {
	out := make([][]int, 0, len(l)+3)
	for _, b := range l {
		out = append(out, append(make([]int, 0, len(b)+3), b...))
	}
	return out
}

// untouched looks whether lists that roomy has made are as they were, their spare room too.
func untouched(t *testing.T, what string, l, was [][]int) {
	t.Helper()
	if !reflect.DeepEqual(l, roomy(was)) || !reflect.DeepEqual(l[len(l):cap(l)], make([][]int, 3)) {
		t.Errorf("%s: what is handed in is changed", what)
	}
	for _, b := range l {
		if !slices.Equal(b[len(b):cap(b)], make([]int, 3)) {
			t.Errorf("%s: the room behind a list is changed", what)
		}
	}
}

// same tells where something else comes than should; lists without entries are alike.
func same[T any](t *testing.T, what string, got T, e api.Errno, want T) {
	t.Helper()
	if e != api.OK || shown(got) != shown(want) {
		t.Errorf("%s: %s comes, error %d, not %s", what, short(got), e, short(want))
	}
}

// fails tells where an error is another one, or something comes beside it.
func fails[T any](t *testing.T, what string, got T, e api.Errno, want api.Errno) {
	t.Helper()
	var none T
	if e != want || shown(got) != shown(none) {
		t.Errorf("%s: %s comes, error %d, not error %d", what, short(got), e, want)
	}
}

func shown(v any) string { return fmt.Sprintf("%+v", v) }

// short is a value as a message can show it.
func short(v any) string {
	s := shown(v)
	if len(s) > 600 {
		return s[:600] + ".."
	}
	return s
}
