package watch

import (
	"slices"

	"hustings/api"
	"hustings/ballot"
	"hustings/count"
	"hustings/kit"
)

// opener is a watcher of a record that is done: it goes through what was opened, in the order in which it was wanted.
type opener struct {
	*Watcher
	rest []want
}

func openerOf(w *Watcher) *opener { return &opener{w, w.wants.list} }

// outcome is what came of all contests.
func (o *opener) outcome() (api.Outcome, api.Errno) {
	var out api.Outcome
	for contest := range o.m.Contests {
		r, e := o.result(contest)
		if e != api.OK {
			return api.Outcome{}, e
		}
		out.Results = append(out.Results, r)
	}
	return out, api.OK
}

func (o *opener) result(contest int) (api.Result, api.Errno) {
	c := o.m.Contests[contest]
	if kit.Ranks(c) {
		return o.ranked(contest, c), api.OK
	}
	return o.marked(contest, c)
}

// marked is what came of a contest without ranks.
func (o *opener) marked(contest int, c api.Contest) (api.Result, api.Errno) {
	r := api.Result{Ballots: o.ballots(contest)}
	sums := make([]int, len(c.Options))
	for precinct := range o.m.Precincts {
		totals := make([]int, len(c.Options))
		if o.ballotsIn(precinct, contest) > 0 {
			totals = o.next(len(c.Options))
		}
		if slices.Contains(totals, noNumber) {
			return api.Result{}, api.ErrNone
		}
		for option, n := range totals {
			sums[option] += n
		}
		r.Totals = append(r.Totals, totals)
	}
	r.Elected, _ = count.Most(c, sums, o.m.Lots)
	return r, api.OK
}

// ranked is what came of a contest with ranks.
func (o *opener) ranked(contest int, c api.Contest) api.Result {
	r := api.Result{Ballots: o.ballots(contest)}
	for range r.Ballots {
		ranks := o.next(len(c.Options))
		if blank(c, ranks) {
			r.Blank++
		}
		r.Ranks = append(r.Ranks, ranks)
	}
	slices.SortFunc(r.Ranks, slices.Compare)
	r.Elected, _ = count.Elect(c, r.Ranks, o.m.Lots)
	return r
}

// blank tells whether nothing is to be counted in a ballot.
func blank(c api.Contest, ranks []int) bool {
	return ballot.Fits(c, ranks) != api.OK || !slices.ContainsFunc(ranks, func(n int) bool { return n != 0 })
}

// ballots is how many count that have a contest.
func (o *opener) ballots(contest int) int {
	n := 0
	for precinct := range o.m.Precincts {
		n += o.ballotsIn(precinct, contest)
	}
	return n
}

// ballotsIn is how many of these there are in a precinct.
func (o *opener) ballotsIn(precinct, contest int) int {
	if !slices.Contains(o.contestsOf(precinct), contest) {
		return 0
	}
	return o.wants.turnout[precinct]
}

// next are the next numbers that were opened.
func (o *opener) next(n int) []int {
	var out []int
	for _, x := range o.rest[:n] {
		out = append(out, x.number)
	}
	o.rest = o.rest[n:]
	return out
}
