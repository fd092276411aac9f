package audit

import (
	"slices"

	"hustings/api"
	"hustings/long"
)

const (
	optionsLeast = 2
	optionsMost  = 12
)

func noTotal(n int) bool { return !within(n, 0, totalMost) }

func noMark(n int) bool { return !within(n, 0, 1) }

// misplaced tells whether totals or winners are too few or too many, or a winner is no place among the totals, or comes twice.
func misplaced(totals []int, winners []int) bool {
	options := len(totals)
	if !within(options, optionsLeast, optionsMost) || !within(len(winners), 1, options-1) {
		return true
	}
	for i, place := range winners {
		if !within(place, 0, options-1) || slices.Contains(winners[:i], place) {
			return true
		}
	}
	return false
}

// losers are the places that are no winners.
func losers(options int, winners []int) []int {
	var out []int
	for place := range options {
		if !slices.Contains(winners, place) {
			out = append(out, place)
		}
	}
	return out
}

// tied tells whether a winner has not more than each loser.
func tied(totals []int, winners []int) bool {
	for _, loser := range losers(len(totals), winners) {
		for _, winner := range winners {
			if totals[winner] <= totals[loser] {
				return true
			}
		}
	}
	return false
}

// begun is a watch of which nothing was drawn, where nobody is tied.
func begun(totals []int, winners []int, risk api.Frac) api.Watch {
	w := api.Watch{Risk: risk}
	for _, winner := range winners {
		for _, loser := range losers(len(totals), winners) {
			share := long.Lowest(long.Small(totals[winner]), long.Small(totals[winner]+totals[loser]))
			w.Winners = append(w.Winners, winner)
			w.Losers = append(w.Losers, loser)
			w.Shares = append(w.Shares, share.Frac())
			w.Odds = append(w.Odds, whole(1).Frac())
		}
	}
	return w
}

// pair is a winner and a loser: their places, and how their odds are.
type pair struct {
	stakes
	winner, loser int
	odds          long.Fraction
}

// readPairs are the pairs of a watch; false, if it is none of so many options.
func readPairs(w api.Watch, options int) ([]pair, bool) {
	n := len(w.Winners)
	risk, e := readRisk(w.Risk)
	if e != api.OK || len(w.Losers) != n || len(w.Shares) != n || len(w.Odds) != n {
		return nil, false
	}
	var out []pair
	for i := range n {
		p := pair{winner: w.Winners[i], loser: w.Losers[i]}
		share, ok := readShare(w.Shares[i])
		if !ok || !within(p.winner, 0, options-1) || !within(p.loser, 0, options-1) {
			return nil, false
		}
		p.stakes = stakesOf(share, risk)
		if p.odds, ok = p.readOdds(w.Odds[i]); !ok {
			return nil, false
		}
		out = append(out, p)
	}
	return out, true
}

func (p pair) unsettled() bool { return !p.settles(p.odds) }

// behind are the odds behind a ballot with these marks.
func (p pair) behind(marks []int) long.Fraction {
	if p.unsettled() {
		switch marks[p.winner] - marks[p.loser] {
		case 1:
			return p.odds.Times(p.gain)
		case -1:
			return p.odds.Times(p.loss)
		}
	}
	return p.odds
}

// goneOn is a watch, whose pairs these are, behind a ballot with these marks.
func goneOn(w api.Watch, pairs []pair, marks []int) api.Watch {
	next := api.Watch{
		Winners: slices.Clone(w.Winners),
		Losers:  slices.Clone(w.Losers),
		Shares:  slices.Clone(w.Shares),
		Risk:    w.Risk,
		Drawn:   w.Drawn + 1,
	}
	for _, p := range pairs {
		next.Odds = append(next.Odds, p.behind(marks).Frac())
	}
	return next
}
