package count_test

import (
	"fmt"
	"slices"
	"testing"

	"hustings/api"
	"hustings/count"
)

// electsAs looks who is elected.
func electsAs(t *testing.T, what string, c api.Contest, ballots [][]int, want ...int) {
	t.Helper()
	got, e := count.Elect(c, ballots, "lots")
	same(t, what, got, e, want)
}

func TestK5Plural(t *testing.T) {
	c := contestOf(api.RulePlural, 3, 1)
	drawn, _ := count.Lots(c, "lots")
	electsAs(t, "the most", c, slices.Concat(times(2, 0, 1, 0), times(3, 0, 0, 1)), 2)
	electsAs(t, "too many marks are blank", c, slices.Concat(times(9, 1, 1, 0), times(1, 0, 1, 0)), 1)
	electsAs(t, "ranks are blank", c, slices.Concat(times(9, 1, 2, 3), times(1, 0, 1, 0)), 1)
	electsAs(t, "numbers below 0 are blank", c, slices.Concat(times(9, 1, -1, 1), times(1, 0, 1, 0)), 1)
	electsAs(t, "all blank", c, times(9, 1, 1, 0), drawn[0])
	c.Seats = 2
	electsAs(t, "two seats", c, slices.Concat(times(2, 0, 1, 0), times(3, 0, 0, 1)), 2, 1)
	c.Most = 2
	electsAs(t, "two marks", c, slices.Concat(times(2, 1, 1, 0), times(3, 0, 1, 0), times(9, 1, 1, 1)), 1, 0)
	c.Most = 0
	electsAs(t, "no marks", c, times(9, 1, 0, 0), drawn[:2]...)
}

func TestK5Approval(t *testing.T) {
	c := contestOf(api.RuleApproval, 3, 2)
	c.Most = 0 // nothing hangs on it
	drawn, _ := count.Lots(c, "lots")
	electsAs(t, "any marks", c, [][]int{{1, 1, 1}, {1, 1, 0}, {0, 1, 0}}, 1, 0)
	electsAs(t, "two are no mark", c, slices.Concat(times(9, 2, 0, 0), times(1, 0, 0, 1), times(2, 0, 1, 0)), 1, 2)
	electsAs(t, "all marked", c, times(3, 1, 1, 1), drawn[:2]...)
}

func TestK5Transfer(t *testing.T) {
	c := contestOf(api.RuleTransfer, 3, 2)
	electsAs(t, "in their order", c, slices.Concat(times(2, 2, 0, 1), times(7, 0, 1, 0)), 1, 2)
	electsAs(t, "a surplus", c, slices.Concat(times(7, 1, 2, 0), times(2, 0, 0, 1)), 0, 1)
}

func TestK5Pairs(t *testing.T) {
	c := contestOf(api.RulePairs, 3, 1)
	drawn, _ := count.Lots(c, "lots")
	electsAs(t, "who beats all others, though nobody's first but a few's", c, slices.Concat(times(4, 1, 2, 3), times(3, 2, 1, 3), times(4, 3, 2, 1)), 1)
	ring := slices.Concat(times(4, 1, 2, 3), times(3, 3, 1, 2), times(2, 2, 3, 1)) // 0 over 1: 6, 1 over 2: 7, 2 over 0: 5
	electsAs(t, "a ring: the weakest step is left out", c, ring, 0)
	electsAs(t, "a ring with steps alike", c, slices.Concat(times(2, 1, 2, 3), times(2, 3, 1, 2), times(2, 2, 3, 1)), drawn[0])
	electsAs(t, "nothing", c, nil, drawn[0])
	electsAs(t, "all blank", c, times(5, 1, 1, 1), drawn[0])
	for last := range 3 { // one is behind all others, who are alike
		a, b := []int{0, 0, 0}, []int{0, 0, 0}
		a[(last+1)%3], b[(last+2)%3] = 1, 1
		want := drawn[0]
		if want == last {
			want = drawn[1]
		}
		electsAs(t, fmt.Sprint("behind is ", last), c, [][]int{a, b}, want)
	}
	for seats := 1; seats <= 3; seats++ { // it is one, whatever Seats says
		c.Seats = seats
		electsAs(t, fmt.Sprint(seats, " seats"), c, ring, 0)
	}
}

func TestK5Random(t *testing.T) {
	d := dice()
	for range 4000 {
		c := anyContest(d, 6)
		ballots := anyBallots(d, len(c.Options), d.IntN(25))
		lots := fmt.Sprint(d.IntN(9))
		got, e := count.Elect(c, ballots, lots)
		same(t, shown(c)+shown(ballots), got, e, electModel(c, ballots, lots))
	}
}

// TestK5OfTheSmithSet: who is elected by pairs is one of those who beat all others; and there is always somebody.
func TestK5OfTheSmithSet(t *testing.T) {
	d := dice()
	for range 500 {
		c := contestOf(api.RulePairs, 1+d.IntN(12), 1)
		ballots := anyBallots(d, len(c.Options), d.IntN(15))
		got, e := count.Elect(c, ballots, "lots")
		pairs, _ := count.Pairs(c, ballots)
		set, _ := count.Smith(pairs)
		if e != api.OK || len(got) != 1 || !slices.Contains(set, got[0]) {
			t.Errorf("%v comes, error %d, of %v", got, e, set)
		}
	}
}

// TestK5Full: as many ballots and options as there may be.
func TestK5Full(t *testing.T) {
	d := dice()
	for _, rule := range rules {
		c := contestOf(rule, 12, 3)
		c.Most = 12
		ballots := anyBallots(d, 12, 4096)
		got, e := count.Elect(c, ballots, "lots")
		if rule != api.RulePairs {
			same(t, fmt.Sprint("rule ", rule), got, e, electModel(c, ballots, "lots"))
		} else if e != api.OK || len(got) != 1 {
			t.Error("by pairs comes", got, "error", e)
		}
	}
}

// TestE2Elect: what is handed in is only read.
func TestE2Elect(t *testing.T) {
	d := dice()
	was := anyBallots(d, 5, 40)
	for _, rule := range rules {
		c := contestOf(rule, 5, 2)
		options := slices.Clone(c.Options)
		ballots := roomy(was)
		for range 2 {
			got, e := count.Elect(c, ballots, "lots")
			same(t, fmt.Sprint("rule ", rule), got, e, electModel(c, was, "lots"))
			spoil(got, -7)
		}
		untouched(t, fmt.Sprint("rule ", rule), ballots, was)
		if !slices.Equal(c.Options, options) || c.Rule != rule {
			t.Error("the contest is changed")
		}
	}
}
