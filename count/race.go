package count

import (
	"slices"

	"hustings/api"
	"hustings/long"
)

// How an option stands.
const (
	continuing = iota
	waiting    // elected; its ballots have not gone on
	gone       // elected; it keeps the quota, and its ballots have gone on
	excluded
)

// parcel is ballots of the same weight that lie with the same option. Of each ballot the options are left that have ranks
// behind that option's, in order.
type parcel struct {
	weight  long.Number
	ballots [][]int
}

// race is a single transferable vote, as it stands ahead of a round. All weights are told in parts, all of the same size: so
// they are whole numbers, and no divisors are looked for but of what is told.
type race struct {
	seats   int
	drawn   []int // all options, as they are drawn
	stands  []int // how each option stands
	elected []int
	whole   long.Number // so many parts are 1
	quota   long.Number
	piles   [][]parcel    // what lies with each option; the last one: with none
	totals  []long.Number // of these, ahead of the round
}

// raceOf is how it begins.
func raceOf(p poll) *race {
	counted := p.ranked().counted()
	options := len(p.contest.Options)
	r := &race{
		seats:  p.contest.Seats,
		drawn:  drawn(p.contest, p.lots),
		stands: make([]int, options),
		whole:  long.Small(p.contest.Seats + 1),
		quota:  long.Small(len(counted)),
		piles:  make([][]parcel, options+1),
	}
	var ballots [][]int
	for _, b := range counted {
		ballots = append(ballots, byRank(b))
	}
	r.give(parcel{r.whole, ballots})
	return r
}

// byRank are the options that have ranks, in order.
func byRank(ranks []int) []int {
	order := make([]int, len(ranks))
	n := 0
	for option, rank := range ranks {
		if rank > 0 {
			order[rank-1] = option
			n++
		}
	}
	return order[:n]
}

// give lays each ballot of a parcel with the continuing option that has the next rank on it.
func (r *race) give(p parcel) {
	shares := make([][][]int, len(r.piles))
	for _, b := range p.ballots {
		to, rest := r.next(b)
		shares[to] = append(shares[to], rest)
	}
	for to, ballots := range shares {
		if len(ballots) > 0 {
			r.piles[to] = append(r.piles[to], parcel{p.weight, ballots})
		}
	}
}

// next is to whom a ballot goes, and what is left of it then.
func (r *race) next(b []int) (int, []int) {
	for i, option := range b {
		if r.stands[option] == continuing {
			return option, b[i+1:]
		}
	}
	return len(r.stands), nil
}

// takeAll takes what lies with an option away from it.
func (r *race) takeAll(option int) []parcel {
	pile := r.piles[option]
	r.piles[option] = nil
	return pile
}

// split makes each part into so many.
func (r *race) split(n long.Number) {
	r.whole = r.whole.Times(n)
	r.quota = r.quota.Times(n)
	for _, pile := range r.piles {
		for i := range pile {
			pile[i].weight = pile[i].weight.Times(n)
		}
	}
}

// weigh tells the totals anew.
func (r *race) weigh() {
	r.totals = make([]long.Number, len(r.piles))
	for i, pile := range r.piles {
		for _, p := range pile {
			r.totals[i] = r.totals[i].Plus(p.weight.Times(long.Small(len(p.ballots))))
		}
	}
	for option, stand := range r.stands {
		if stand == gone {
			r.totals[option] = r.quota
		}
	}
}

// standing are all options that stand so, the greatest total first.
func (r *race) standing(stand int) []int {
	others := func(option int) bool { return r.stands[option] != stand }
	options := slices.DeleteFunc(slices.Clone(r.drawn), others)
	return greatestFirst(options, r.totals, long.Number.Compare)
}

// frac is a weight as it is told.
func (r *race) frac(weight long.Number) api.Frac { return long.Lowest(weight, r.whole).Frac() }
