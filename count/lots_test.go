package count_test

import (
	"fmt"
	"slices"
	"strings"
	"testing"

	"hustings/api"
	"hustings/count"
)

func TestK1Lots(t *testing.T) {
	d := dice()
	for _, lots := range []string{"", "lots", "\x00\xff", strings.Repeat("long", 50)} {
		for range 200 {
			c := anyContest(d, 12)
			got, e := count.Lots(c, lots)
			same(t, shown(c), got, e, lotsModel(c, lots))
		}
	}
}

// TestK1Alike: of two options that have the same lot the one that stands first is drawn first.
func TestK1Alike(t *testing.T) {
	c := api.Contest{Rule: api.RulePlural, Seats: 1, Options: slices.Repeat([]string{"same"}, 12)}
	got, e := count.Lots(c, "lots")
	same(t, "all alike", got, e, []int{0, 1, 2, 3, 4, 5, 6, 7, 8, 9, 10, 11})
	c.Options = []string{"b", "a", "b", "a", "b", "c"}
	got, e = count.Lots(c, "lots")
	same(t, "some alike", got, e, lotsModel(c, "lots"))
	if b := slices.Index(got, 0); !slices.Equal(got[b:b+3], []int{0, 2, 4}) {
		t.Error("those that are alike come as", got)
	}
}

// TestK1HangsOn: lots hang on what is said, on all of it and on nothing else.
func TestK1HangsOn(t *testing.T) {
	c := contestOf(api.RulePlural, 12, 3)
	first, _ := count.Lots(c, "lots")
	for name, change := range map[string]func(c *api.Contest, lots *string){
		"lots":   func(c *api.Contest, lots *string) { *lots = "other" },
		"name":   func(c *api.Contest, lots *string) { c.Name = "other" },
		"option": func(c *api.Contest, lots *string) { c.Options[first[0]] = c.Options[first[11]] },
		"parts":  func(c *api.Contest, lots *string) { *lots, c.Name = "lotsc", "ouncil" },
	} {
		other, lots := contestOf(api.RulePlural, 12, 3), "lots"
		change(&other, &lots)
		if got, _ := count.Lots(other, lots); slices.Equal(got, first) {
			t.Errorf("another %s changes nothing", name)
		}
	}
	for _, rule := range rules {
		other := contestOf(rule, 12, 1+rule)
		other.Most = rule - 2
		got, e := count.Lots(other, "lots")
		same(t, fmt.Sprint("rule ", rule), got, e, first)
	}
}

func TestK1Most(t *testing.T) {
	c := contestOf(api.RulePlural, 4, 2)
	drawn, _ := count.Lots(c, "lots")
	cases := []struct {
		totals []int
		want   []int
	}{
		{[]int{1, 2, 3, 4}, []int{3, 2}},
		{[]int{9, 0, 10, 0}, []int{2, 0}},
		{[]int{most, 0, most - 1, 1}, []int{0, 2}},
		{[]int{0, most, 0, most - 1}, []int{1, 3}},
		{[]int{0, 0, 0, 0}, drawn[:2]},
		{[]int{most, most, most, most}, drawn[:2]},
		{[]int{7, 7, 7, 7}, drawn[:2]},
	}
	for _, k := range cases {
		got, e := count.Most(c, k.totals, "lots")
		same(t, shown(k.totals), got, e, k.want)
	}
	c.Seats = 1
	for place, one := range drawn { // one falls behind: whoever of the others is drawn first
		totals, want := []int{5, 5, 5, 5}, drawn[:1]
		totals[one] = 4
		if place == 0 {
			want = drawn[1:2]
		}
		got, e := count.Most(c, totals, "lots")
		same(t, shown(totals), got, e, want)
	}
}

func TestK1MostRandom(t *testing.T) {
	d := dice()
	for range 3000 {
		c := anyContest(d, 12)
		totals := make([]int, len(c.Options))
		for i := range totals {
			totals[i] = d.IntN(5)
		}
		was := slices.Clone(totals)
		got, e := count.Most(c, totals, "lots")
		same(t, shown(c)+shown(totals), got, e, mostModel(c, totals, "lots"))
		if !slices.Equal(totals, was) {
			t.Error("the totals are changed")
		}
	}
}

func TestK1MostWrong(t *testing.T) {
	c := contestOf(api.RuleTransfer, 4, 4)
	for _, totals := range [][]int{nil, {}, {1}, {1, 2, 3}, {1, 2, 3, 4, 5}, {-1, 1, 1}, {-1, 1, 1, 1, 1}, make([]int, 5000)} {
		got, e := count.Most(c, totals, "lots")
		fails(t, short(totals), got, e, api.ErrForm)
	}
	for _, n := range []int{-1, -2, least} {
		for i := range 4 {
			totals := []int{0, 1, most, 2}
			totals[i] = n
			got, e := count.Most(c, totals, "lots")
			fails(t, short(totals), got, e, api.ErrRange)
		}
	}
}

// TestK1WrongContests: what is wrong with a contest is told ahead of all else, by each call.
func TestK1WrongContests(t *testing.T) {
	bad := append(times(4097, 1), []int{1, 2})
	for name, c := range wrongContests() {
		got, e := count.Lots(c, "lots")
		fails(t, "Lots: "+name, got, e, api.ErrForm)
		for _, totals := range [][]int{nil, {1, 2, 3, 4}, {-1, -1, -1, -1}, make([]int, len(c.Options))} {
			got, e = count.Most(c, totals, "lots")
			fails(t, "Most: "+name, got, e, api.ErrForm)
		}
		for _, ballots := range [][][]int{nil, bad, {{1, 0, 0, 0}}, {make([]int, len(c.Options))}} {
			told, e := count.Transfer(c, ballots, "lots")
			fails(t, "Transfer: "+name, told, e, api.ErrForm)
			pairs, e := count.Pairs(c, ballots)
			fails(t, "Pairs: "+name, pairs, e, api.ErrForm)
			got, e = count.Elect(c, ballots, "lots")
			fails(t, "Elect: "+name, got, e, api.ErrForm)
		}
	}
}

// TestK1NothingElseIsAsked: names may be anything, alike too, and Most may.
func TestK1NothingElseIsAsked(t *testing.T) {
	for _, rule := range rules {
		for _, marks := range []int{least, -1, 0, 1, 99, most} {
			c := api.Contest{Options: []string{"", "", strings.Repeat(" ", 1000)}, Rule: rule, Seats: 3, Most: marks}
			ballots := [][]int{{1, 0, 0}, {1, 2, 3}, {1, 1, 1}}
			got, e := count.Lots(c, "")
			same(t, "Lots", got, e, lotsModel(c, ""))
			got, e = count.Most(c, []int{1, 1, 1}, "")
			same(t, "Most", got, e, lotsModel(c, ""))
			told, e := count.Transfer(c, ballots, "")
			same(t, "Transfer", told, e, transferModel(c, ballots, ""))
			pairs, e := count.Pairs(c, ballots)
			same(t, "Pairs", pairs, e, pairsModel(c, ballots))
			got, e = count.Elect(c, ballots, "")
			same(t, "Elect", got, e, electModel(c, ballots, ""))
		}
	}
}
