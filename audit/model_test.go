package audit_test

import (
	"math/big"
	"slices"
	"strings"

	"hustings/api"
)

// A second writing of the document's words, with math/big, and as plain as can be.

// rat is the fraction that a Frac is.
func rat(x api.Frac) *big.Rat {
	num, _ := new(big.Int).SetString(x.Num, 10)
	den, _ := new(big.Int).SetString(x.Den, 10)
	return new(big.Rat).SetFrac(num, den)
}

// told is a fraction as it is told.
func told(r *big.Rat) api.Frac { return api.Frac{Num: r.Num().String(), Den: r.Denom().String()} }

// isFraction: in the sense of chapter 2.
func isFraction(x api.Frac) bool {
	for _, s := range []string{x.Num, x.Den} {
		if s == "" || strings.Trim(s, "0123456789") != "" || s[0] == '0' && s != "0" {
			return false
		}
	}
	return x.Den != "0" && told(rat(x)) == x
}

// riskModel is what is wrong with a risk.
func riskModel(x api.Frac) api.Errno {
	switch {
	case !isFraction(x) || len(x.Num) > 100 || len(x.Den) > 100:
		return api.ErrForm
	case rat(x).Sign() == 0 || rat(x).Cmp(big.NewRat(1, 1)) > 0:
		return api.ErrRange
	}
	return api.OK
}

func beginModel(totals, winners []int, risk api.Frac) (api.Watch, api.Errno) {
	if len(totals) < 2 || len(totals) > 12 || len(winners) < 1 || len(winners) >= len(totals) {
		return api.Watch{}, api.ErrForm
	}
	seen := map[int]bool{}
	for _, place := range winners {
		if place < 0 || place >= len(totals) || seen[place] {
			return api.Watch{}, api.ErrForm
		}
		seen[place] = true
	}
	for _, n := range totals {
		if n < 0 || n > 1048576 {
			return api.Watch{}, api.ErrRange
		}
	}
	if e := riskModel(risk); e != api.OK {
		return api.Watch{}, e
	}
	w := api.Watch{Risk: risk}
	for _, winner := range winners {
		for loser := range totals {
			if seen[loser] {
				continue
			}
			if totals[winner] <= totals[loser] {
				return api.Watch{}, api.ErrTie
			}
			w.Winners = append(w.Winners, winner)
			w.Losers = append(w.Losers, loser)
			w.Shares = append(w.Shares, told(big.NewRat(int64(totals[winner]), int64(totals[winner]+totals[loser]))))
			w.Odds = append(w.Odds, api.Frac{Num: "1", Den: "1"})
		}
	}
	return w, api.OK
}

// misfit: is a watch none of so many options?
func misfit(w api.Watch, options int) bool {
	n := len(w.Winners)
	if len(w.Losers) != n || len(w.Shares) != n || len(w.Odds) != n || riskModel(w.Risk) != api.OK {
		return true
	}
	for i := range n {
		s := w.Shares[i]
		if w.Winners[i] < 0 || w.Winners[i] >= options || w.Losers[i] < 0 || w.Losers[i] >= options || !isFraction(w.Odds[i]) {
			return true
		}
		if !isFraction(s) || len(s.Num) > 100 || len(s.Den) > 100 || rat(s).Cmp(big.NewRat(1, 2)) <= 0 || rat(s).Cmp(big.NewRat(1, 1)) > 0 {
			return true
		}
	}
	return false
}

// enough: are odds not below 1 / risk?
func enough(odds, risk *big.Rat) bool { return odds.Cmp(new(big.Rat).Inv(risk)) >= 0 }

// factor is what odds are multiplied by.
func factor(share *big.Rat, winner, loser bool) *big.Rat {
	two := big.NewRat(2, 1)
	switch {
	case winner && !loser:
		return two.Mul(two, share)
	case loser && !winner:
		return two.Mul(two, new(big.Rat).Sub(big.NewRat(1, 1), share))
	}
	return big.NewRat(1, 1)
}

func drawModel(w api.Watch, marks []int) (api.Watch, api.Errno) {
	if len(marks) < 2 || len(marks) > 12 || misfit(w, len(marks)) {
		return api.Watch{}, api.ErrForm
	}
	for _, m := range marks {
		if m != 0 && m != 1 {
			return api.Watch{}, api.ErrForm
		}
	}
	if w.Drawn < 0 || w.Drawn > 1023 {
		return api.Watch{}, api.ErrLong
	}
	w = clone(w)
	w.Drawn++
	for i, odds := range w.Odds {
		if !enough(rat(odds), rat(w.Risk)) {
			by := factor(rat(w.Shares[i]), marks[w.Winners[i]] == 1, marks[w.Losers[i]] == 1)
			w.Odds[i] = told(by.Mul(by, rat(odds)))
		}
	}
	return w, api.OK
}

func settledModel(w api.Watch) bool {
	return !misfit(w, 12) && !slices.ContainsFunc(w.Odds, func(odds api.Frac) bool { return !enough(rat(odds), rat(w.Risk)) })
}

// chanceModel goes through all that may be drawn, ballot by ballot, from odds on.
func chanceModel(share, odds, risk *big.Rat, a, b, total, n int) *big.Rat {
	if enough(odds, risk) {
		return big.NewRat(1, 1)
	}
	sum := new(big.Rat)
	if n == 0 {
		return sum
	}
	for _, c := range []struct {
		ballots       int
		winner, loser bool
	}{{a, true, false}, {b, false, true}, {total - a - b, false, false}} {
		if c.ballots > 0 {
			by := factor(share, c.winner, c.loser)
			rest := chanceModel(share, by.Mul(by, odds), risk, a, b, total, n-1)
			sum.Add(sum, rest.Mul(rest, big.NewRat(int64(c.ballots), int64(total))))
		}
	}
	return sum
}

// custodyModel is what happened to boxes, and nothing else: how they stand is looked up in it, from the last thing back.
type custodyModel struct{ done []api.Hand }

// lastOf is the last thing that happened to a box, of some kinds.
func (c custodyModel) lastOf(box string, kinds ...int) (api.Hand, bool) {
	for i := len(c.done) - 1; i >= 0; i-- {
		if h := c.done[i]; h.Box == box && slices.Contains(kinds, h.Do) {
			return h, true
		}
	}
	return api.Hand{}, false
}

// all are the names of all boxes, rising.
func (c custodyModel) all() []string {
	var out []string
	for _, h := range c.done {
		if h.Do == api.HandPack {
			out = append(out, h.Box)
		}
	}
	slices.Sort(out)
	return out
}

// had: had a box this seal ever?
func (c custodyModel) had(seal string) bool {
	return slices.ContainsFunc(c.done, func(h api.Hand) bool {
		return h.Seal == seal && (h.Do == api.HandPack || h.Do == api.HandClose)
	})
}

// batch is how a box is.
func (c custodyModel) batch(box string) api.Batch {
	held, _ := c.lastOf(box, api.HandPack, api.HandTake)
	filled, _ := c.lastOf(box, api.HandPack, api.HandClose)
	b := api.Batch{Name: box, Count: filled.Count, Holder: held.Who, Seal: filled.Seal}
	if c.isOpen(box) {
		b.Seal = ""
	}
	return b
}

func (c custodyModel) isOpen(box string) bool {
	h, _ := c.lastOf(box, api.HandPack, api.HandOpen, api.HandClose)
	return h.Do == api.HandOpen
}

func (c custodyModel) batches() []api.Batch {
	var out []api.Batch
	for _, name := range c.all() {
		out = append(out, c.batch(name))
	}
	return out
}

func isWord(s string) bool {
	return len(s) > 0 && len(s) <= 32 && strings.IndexFunc(s, func(r rune) bool { return r < '!' || r > '~' }) < 0
}

// formModel is what is wrong with something, wherever boxes are.
func formModel(h api.Hand) api.Errno {
	to, seal := h.To == "", isWord(h.Seal)
	if h.Do == api.HandGive {
		to, seal = isWord(h.To), h.Seal == ""
	}
	counted := h.Do == api.HandPack || h.Do == api.HandOpen || h.Do == api.HandClose
	switch {
	case h.Do < 1 || h.Do > 5 || !isWord(h.Box) || !isWord(h.Who) || !to || !seal:
		return api.ErrForm
	case counted && (h.Count < 0 || h.Count > 1048576) || !counted && h.Count != 0:
		return api.ErrRange
	}
	return api.OK
}

func (c custodyModel) packModel(h api.Hand) api.Errno {
	switch {
	case slices.Contains(c.all(), h.Box):
		return api.ErrTwice
	case len(c.all()) == 256:
		return api.ErrFull
	case c.had(h.Seal):
		return api.ErrTwice
	}
	return api.OK
}

// handModel is what must be answered; what is OK is done.
func (c *custodyModel) handModel(h api.Hand) api.Errno {
	e := formModel(h)
	switch {
	case e != api.OK:
		return e
	case h.Do == api.HandPack:
		e = c.packModel(h)
	default:
		e = c.otherModel(h)
	}
	if e == api.OK {
		c.done = append(c.done, h)
	}
	return e
}

func (c custodyModel) otherModel(h api.Hand) api.Errno {
	if !slices.Contains(c.all(), h.Box) {
		return api.ErrNone
	}
	b := c.batch(h.Box)
	given, was := c.lastOf(h.Box, api.HandGive, api.HandTake)
	underWay := was && given.Do == api.HandGive
	who := b.Holder
	if h.Do == api.HandTake {
		who = given.To
	}
	switch {
	case underWay != (h.Do == api.HandTake) || c.isOpen(h.Box) != (h.Do == api.HandClose):
		return api.ErrState
	case h.Who != who:
		return api.ErrRight
	case (h.Do == api.HandTake || h.Do == api.HandOpen) && h.Seal != b.Seal:
		return api.ErrProof
	case h.Do == api.HandOpen && h.Count != b.Count:
		return api.ErrProof
	case h.Do == api.HandClose && c.had(h.Seal):
		return api.ErrTwice
	}
	return api.OK
}
