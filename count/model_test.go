package count_test

import (
	"math/big"
	"slices"
	"sort"

	"hustings/api"
	"hustings/fold"
)

// What the document says of counting, in the order of its words, with numbers of math/big; of contests and ballots that
// nothing is wrong with.

// before tells whether of two options the first one is drawn first.
func before(c api.Contest, lots string, i, k int) bool {
	one := fold.Tag("lot", []string{lots, c.Name, c.Options[i]})
	two := fold.Tag("lot", []string{lots, c.Name, c.Options[k]})
	for at := range len(one) {
		if one[at] != two[at] {
			return one[at] < two[at]
		}
	}
	return i < k
}

// lotsModel puts each option behind as many as are drawn ahead of it.
func lotsModel(c api.Contest, lots string) []int {
	out := make([]int, len(c.Options))
	for i := range out {
		ahead := 0
		for k := range out {
			if k != i && before(c, lots, k, i) {
				ahead++
			}
		}
		out[ahead] = i
	}
	return out
}

// mostModel takes the greatest that is left, again and again.
func mostModel(c api.Contest, totals []int, lots string) []int {
	var out []int
	for range c.Seats {
		best := -1
		for i := range totals {
			if slices.Contains(out, i) {
				continue
			}
			if best < 0 || totals[i] > totals[best] || totals[i] == totals[best] && before(c, lots, i, best) {
				best = i
			}
		}
		out = append(out, best)
	}
	return out
}

// blankModel tells whether a ballot is, its numbers taken as ranks or as marks.
func blankModel(c api.Contest, ranks bool, b []int) bool {
	var numbers []int
	for _, x := range b {
		if x != 0 {
			numbers = append(numbers, x)
		}
	}
	sort.Ints(numbers)
	if len(numbers) == 0 || !ranks && c.Rule == api.RulePlural && len(numbers) > c.Most {
		return true
	}
	for i, x := range numbers {
		if ranks && x != i+1 || !ranks && x != 1 {
			return true
		}
	}
	return false
}

// lying is a ballot, its weight, and with whom it lies (-1: with none).
type lying struct {
	ranks  []int
	weight *big.Rat
	with   int
}

// raceModel is a single transferable vote.
type raceModel struct {
	c          api.Contest
	lots       string
	quota      *big.Rat
	ballots    []lying
	continuing []bool
	keeps      []*big.Rat
	elected    []int
	told       api.Transferred
}

// withRank is the option with a rank on a ballot.
func withRank(ranks []int, rank int) int { return slices.Index(ranks, rank) }

// total is the weight of all that lies with an option, with what it keeps; of -1, what is exhausted. Ballots of the same
// weight are told by how many they are, else this would take long.
func (r *raceModel) total(option int) *big.Rat {
	sum := new(big.Rat)
	many := map[*big.Rat]int64{}
	for _, b := range r.ballots {
		if b.with == option {
			many[b.weight]++
		}
	}
	for weight, n := range many {
		sum.Add(sum, new(big.Rat).Mul(weight, big.NewRat(n, 1)))
	}
	if option >= 0 && r.keeps[option] != nil {
		sum.Add(sum, r.keeps[option])
	}
	return sum
}

// goOn lets all ballots that lie with an option go on, with a part of their weights.
func (r *raceModel) goOn(option int, part *big.Rat) {
	lighter := map[*big.Rat]*big.Rat{}
	for i := range r.ballots {
		b := &r.ballots[i]
		if b.with != option {
			continue
		}
		if lighter[b.weight] == nil {
			lighter[b.weight] = new(big.Rat).Mul(b.weight, part)
		}
		b.weight = lighter[b.weight]
		rank := b.ranks[option]
		b.with = -1
		for rank++; rank <= len(b.ranks); rank++ {
			if next := withRank(b.ranks, rank); next >= 0 && r.continuing[next] {
				b.with = next
				break
			}
		}
	}
}

// sorted are options, the greatest total first, of those with the same whoever is drawn first.
func (r *raceModel) sorted(options []int, totals []*big.Rat) []int {
	sort.Slice(options, func(x, y int) bool {
		i, k := options[x], options[y]
		if o := totals[i].Cmp(totals[k]); o != 0 {
			return o > 0
		}
		return before(r.c, r.lots, i, k)
	})
	return options
}

// which are all options of which something holds.
func (r *raceModel) which(holds func(i int) bool) []int {
	var out []int
	for i := range r.continuing {
		if holds(i) {
			out = append(out, i)
		}
	}
	return out
}

// round does one thing, and tells whether there was one.
func (r *raceModel) round() bool {
	var totals []*big.Rat
	told := api.Round{Exhausted: fracOf(r.total(-1))}
	for i := range r.continuing {
		totals = append(totals, r.total(i))
		told.Totals = append(told.Totals, fracOf(totals[i]))
	}
	all := r.which(func(i int) bool { return r.continuing[i] })
	above := r.which(func(i int) bool { return r.continuing[i] && totals[i].Cmp(r.quota) > 0 })
	waiting := r.which(func(i int) bool { return slices.Contains(r.elected, i) && r.keeps[i] == nil })
	switch {
	case len(above) > 0:
		told.Do, told.Who = api.RoundElect, r.sorted(above, totals)
		r.elect(told.Who)
	case len(r.elected) == r.c.Seats:
		return false
	case len(all)+len(r.elected) <= r.c.Seats:
		told.Do, told.Who = api.RoundFill, r.sorted(all, totals)
		r.elect(told.Who)
	case len(waiting) > 0:
		one := r.sorted(waiting, totals)[0]
		told.Do, told.Who = api.RoundTransfer, []int{one}
		r.keeps[one] = r.quota
		part := new(big.Rat).Sub(totals[one], r.quota)
		r.goOn(one, part.Quo(part, totals[one]))
	default:
		one := r.sorted(all, totals)[len(all)-1]
		told.Do, told.Who = api.RoundExclude, []int{one}
		r.continuing[one] = false
		r.goOn(one, big.NewRat(1, 1))
	}
	r.told.Rounds = append(r.told.Rounds, told)
	return true
}

func (r *raceModel) elect(who []int) {
	for _, i := range who {
		r.continuing[i] = false
		r.elected = append(r.elected, i)
	}
}

func fracOf(x *big.Rat) api.Frac { return api.Frac{Num: x.Num().String(), Den: x.Denom().String()} }

// transferModel is all of it.
func transferModel(c api.Contest, ballots [][]int, lots string) api.Transferred {
	r := raceModel{c: c, lots: lots, keeps: make([]*big.Rat, len(c.Options)), continuing: make([]bool, len(c.Options))}
	one := big.NewRat(1, 1)
	for _, b := range ballots {
		if !blankModel(c, true, b) {
			r.ballots = append(r.ballots, lying{b, one, withRank(b, 1)})
		}
	}
	for i := range r.continuing {
		r.continuing[i] = true
	}
	r.quota = big.NewRat(int64(len(r.ballots)), int64(c.Seats+1))
	for r.round() {
	}
	r.told.Quota, r.told.Elected = fracOf(r.quota), r.elected
	return r.told
}

// pairsModel goes ballot by ballot through all who are ranked.
func pairsModel(c api.Contest, ballots [][]int) [][]int {
	n := len(c.Options)
	out := make([][]int, n)
	for i := range out {
		out[i] = make([]int, n)
	}
	for _, b := range ballots {
		if blankModel(c, true, b) {
			continue
		}
		for rank := 1; withRank(b, rank) >= 0; rank++ {
			i := withRank(b, rank)
			for j := range n {
				if j != i && (b[j] == 0 || b[j] > rank) {
					out[i][j]++
				}
			}
		}
	}
	return out
}

// wayModel is the strength of the strongest way from i to j over options that are not yet on it.
func wayModel(pairs [][]int, i, j int, on []int) int {
	best := 0
	for next := range pairs {
		if slices.Contains(on, next) || pairs[i][next] <= pairs[next][i] {
			continue
		}
		strength := pairs[i][next]
		if next != j {
			strength = min(strength, wayModel(pairs, next, j, append(slices.Clone(on), next)))
		}
		best = max(best, strength)
	}
	return best
}

// pathsModel goes all ways.
func pathsModel(pairs [][]int) [][]int {
	var out [][]int
	for i := range pairs {
		var row []int
		for j := range pairs {
			if i == j {
				row = append(row, 0)
			} else {
				row = append(row, wayModel(pairs, i, j, []int{i}))
			}
		}
		out = append(out, row)
	}
	return out
}

// smithModel looks at all sets.
func smithModel(pairs [][]int) []int {
	var best []int
	for set := 1; set < 1<<len(pairs); set++ {
		var inside []int
		fits := true
		for i := range pairs {
			if set>>i&1 == 0 {
				continue
			}
			inside = append(inside, i)
			for j := range pairs {
				fits = fits && (set>>j&1 == 1 || pairs[i][j] > pairs[j][i])
			}
		}
		if fits && (best == nil || len(inside) < len(best)) {
			best = inside
		}
	}
	return best
}

// electModel goes by the rule.
func electModel(c api.Contest, ballots [][]int, lots string) []int {
	switch c.Rule {
	case api.RuleTransfer:
		return transferModel(c, ballots, lots).Elected
	case api.RulePairs:
		ways := pathsModel(pairsModel(c, ballots))
		for _, i := range lotsModel(c, lots) {
			none := true
			for j := range ways {
				none = none && ways[j][i] <= ways[i][j]
			}
			if none {
				return []int{i}
			}
		}
		return nil
	}
	totals := make([]int, len(c.Options))
	for _, b := range ballots {
		for i := range b {
			if !blankModel(c, false, b) && b[i] == 1 {
				totals[i]++
			}
		}
	}
	return mostModel(c, totals, lots)
}
