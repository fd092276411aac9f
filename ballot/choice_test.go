package ballot_test

import (
	"fmt"
	"slices"
	"testing"

	"hustings/api"
	"hustings/ballot"
)

// allChoices are all of so many numbers from lo to hi.
func allChoices(n, lo, hi int) [][]int {
	if n == 0 {
		return [][]int{nil}
	}
	var out [][]int
	for _, l := range allChoices(n-1, lo, hi) {
		for x := lo; x <= hi; x++ {
			out = append(out, append(slices.Clone(l), x))
		}
	}
	return out
}

func contestOf(rule, options, marks int) api.Contest {
	return api.Contest{Name: "c", Options: make([]string, options), Rule: rule, Seats: 1, Most: marks}
}

func TestC2Fits(t *testing.T) {
	for rule := -1; rule <= 6; rule++ {
		for options := range 5 {
			for marks := -1; marks <= options+1; marks++ {
				c := contestOf(rule, options, marks)
				for _, l := range allChoices(options, -1, options+1) {
					tells(t, fmt.Sprint(c, l), ballot.Fits(c, l), fitsModel(c, l))
				}
			}
		}
	}
}

func TestC2Words(t *testing.T) {
	plural, approval := contestOf(api.RulePlural, 2, 1), contestOf(api.RuleApproval, 3, 0)
	cases := []struct {
		c      api.Contest
		choice []int
		want   api.Errno
	}{
		{plural, []int{1, 0}, api.OK},
		{plural, []int{0, 0}, api.OK},
		{plural, []int{1, 1}, api.ErrRange},
		{plural, []int{2, 0}, api.ErrRange},
		{plural, []int{2, -1}, api.ErrRange},
		{plural, []int{most, most}, api.ErrRange},
		{plural, []int{least, 1}, api.ErrRange},
		{plural, []int{1}, api.ErrForm},
		{plural, []int{9}, api.ErrForm},
		{plural, []int{1, 0, 0}, api.ErrForm},
		{plural, nil, api.ErrForm},
		{approval, []int{1, 1, 1}, api.OK},
		{approval, []int{0, 2, 0}, api.ErrRange},
		{contestOf(api.RulePlural, 0, 0), nil, api.OK},
		{contestOf(api.RulePlural, 0, 0), []int{}, api.OK},
		{contestOf(api.RulePlural, 0, -1), nil, api.ErrRange},
		{contestOf(api.RulePlural, 1, least), []int{0}, api.ErrRange},
		{contestOf(api.RulePlural, 1, most), []int{1}, api.OK},
		{contestOf(api.RuleApproval, 1, least), []int{1}, api.OK},
		{contestOf(99, 2, 0), []int{1, 1}, api.OK}, // without ranks, and nothing is said of the sum
	}
	for _, c := range cases {
		tells(t, fmt.Sprint(c.c, c.choice), ballot.Fits(c.c, c.choice), c.want)
	}
	for _, rule := range []int{api.RuleTransfer, api.RulePairs} {
		c := contestOf(rule, 3, 0)
		for _, l := range [][]int{{2, 0, 1}, {0, 0, 0}, {0, 1, 0}, {3, 2, 1}, {1, 2, 0}} {
			tells(t, fmt.Sprint(l), ballot.Fits(c, l), api.OK)
		}
		for _, l := range [][]int{{1, 3, 0}, {0, 2, 0}, {1, 1, 0}, {1, 1, 2}, {2, 2, 2}, {4, 1, 2}, {-1, 1, 2}, {-1, 0, 1}, {-1, -2, -3}, {most, 1, 2}, {least, 1, 2}} {
			tells(t, fmt.Sprint(l), ballot.Fits(c, l), api.ErrRange)
		}
		tells(t, "four", ballot.Fits(c, []int{1, 2, 3, 0}), api.ErrForm)
		tells(t, "two", ballot.Fits(c, []int{1, 2}), api.ErrForm)
	}
}

func TestC2Random(t *testing.T) {
	d := dice()
	for range 20000 {
		c := contestOf(1+d.IntN(4), 1+d.IntN(14), d.IntN(14))
		l := make([]int, len(c.Options))
		for i, x := range d.Perm(len(l)) {
			l[i] = max(0, x-d.IntN(3))
		}
		if d.IntN(2) == 0 {
			l = anyChoice(d, contestOf(api.RuleTransfer, len(l), 0))
		}
		if d.IntN(3) == 0 {
			l[d.IntN(len(l))] += d.IntN(3) - 1
		}
		tells(t, fmt.Sprint(c, l), ballot.Fits(c, l), fitsModel(c, l))
	}
}

// TestC2Long: contests of any length are looked at; nothing takes long.
func TestC2Long(t *testing.T) {
	const n = 1 << 20
	c := contestOf(api.RuleTransfer, n, 0)
	l := make([]int, n)
	for i := range l {
		l[i] = n - i
	}
	before := slices.Clone(l)
	tells(t, "all ranked", ballot.Fits(c, l), api.OK)
	if !slices.Equal(l, before) {
		t.Error("the choice was changed")
	}
	l[0] = 1
	tells(t, "1 twice", ballot.Fits(c, l), api.ErrRange)
}
