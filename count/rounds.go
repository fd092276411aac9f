package count

import (
	"hustings/api"
	"hustings/long"
)

// step is one of the things that may be done in a round: with whom (with none: it can't be done), and how.
type step struct {
	do   int
	who  func(*race) []int
	done func(*race, []int)
}

// steps are all of them: the first that can be done is.
func steps() []step {
	return []step{
		{api.RoundElect, (*race).above, (*race).elect},
		{api.RoundFill, (*race).last, (*race).elect},
		{api.RoundTransfer, (*race).richest, (*race).passOn},
		{api.RoundExclude, (*race).poorest, (*race).exclude},
	}
}

// above are those whose totals are above the quota.
func (r *race) above() []int {
	all := r.standing(continuing)
	n := 0
	for n < len(all) && r.totals[all[n]].Compare(r.quota) > 0 {
		n++
	}
	return all[:n]
}

// last are all who continue, if there are no more of them than seats.
func (r *race) last() []int {
	all := r.standing(continuing)
	if len(all)+len(r.elected) > r.seats {
		return nil
	}
	return all
}

// richest is the one whose ballots go on.
func (r *race) richest() []int {
	all := r.standing(waiting)
	return all[:min(1, len(all))]
}

// poorest is the one who can't be elected any more.
func (r *race) poorest() []int {
	all := r.standing(continuing)
	return all[len(all)-1:]
}

func (r *race) elect(who []int) {
	for _, option := range who {
		r.stands[option] = waiting
		r.elected = append(r.elected, option)
	}
}

// passOn lets what is above the quota go on: its part of the total is left of each weight. The others stay as they are, in
// smaller parts.
func (r *race) passOn(who []int) {
	option := who[0]
	total := r.totals[option]
	left := long.Lowest(total.Minus(r.quota), total)
	pile := r.takeAll(option)
	r.stands[option] = gone
	r.split(left.Den)
	for _, p := range pile {
		r.give(parcel{p.weight.Times(left.Num), p.ballots})
	}
}

func (r *race) exclude(who []int) {
	option := who[0]
	r.stands[option] = excluded
	for _, p := range r.takeAll(option) {
		r.give(p)
	}
}

// round does the first thing that can be done, and tells it, with the totals ahead of it.
func (r *race) round() api.Round {
	r.weigh()
	for _, s := range steps() {
		if who := s.who(r); len(who) > 0 {
			told := r.told(s.do, who)
			s.done(r, who)
			return told
		}
	}
	return api.Round{}
}

func (r *race) told(do int, who []int) api.Round {
	options := len(r.stands)
	t := api.Round{Exhausted: r.frac(r.totals[options]), Do: do, Who: who}
	for _, total := range r.totals[:options] {
		t.Totals = append(t.Totals, r.frac(total))
	}
	return t
}

// transferred is what comes of a poll. When all seats are taken nobody who continues can be above the quota, for those who
// are elected have one each, and all ballots together are just one quota more than there are seats: so it can be asked ahead
// of the first step whether it is the end.
func (p poll) transferred() api.Transferred {
	r := raceOf(p)
	t := api.Transferred{Quota: r.frac(r.quota)}
	for len(r.elected) < r.seats {
		t.Rounds = append(t.Rounds, r.round())
	}
	t.Elected = r.elected
	return t
}
