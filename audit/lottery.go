package audit

import "hustings/long"

// state is how many ballots for the winner alone, and for the loser alone, were drawn: the odds hang on nothing else.
type state struct{ won, lost int }

// lot is all ballots that say the same: how many they are, and what comes of drawing one of them.
type lot struct {
	state
	ballots long.Number
	factor  long.Fraction
}

// lottery is the odds of a pair, when each ballot is as likely to be drawn as any other.
type lottery struct {
	stakes
	lots  []lot
	total long.Number
}

// lotteryOf is that of total ballots, a of them for the winner alone and b for the loser alone.
func lotteryOf(s stakes, a int, b int, total int) lottery {
	return lottery{
		stakes: s,
		lots: []lot{
			{state{1, 0}, long.Small(a), s.gain},
			{state{0, 1}, long.Small(b), s.loss},
			{state{0, 0}, long.Small(total - a - b), whole(1)},
		},
		total: long.Small(total),
	}
}

// branch is all rows of ballots that lead to one state.
type branch struct {
	odds long.Fraction
	rows long.Number // how many there are
}

// chance is that of odds of 1 to be settled by n ballots: of all rows of these the part that settles them.
func (l lottery) chance(n int) long.Fraction {
	start := branch{whole(1), long.Small(1)}
	if l.settles(start.odds) {
		return whole(1)
	}
	open := map[state]branch{{}: start}
	settled, all := long.Small(0), long.Small(1)
	for range n {
		next, more := l.drawn(open)
		open, settled, all = next, settled.Times(l.total).Plus(more), all.Times(l.total)
	}
	return long.Lowest(settled, all)
}

// drawn is where rows lead that are not settled, with one ballot more; and how many of these are settled then.
func (l lottery) drawn(open map[state]branch) (next map[state]branch, settled long.Number) {
	next = map[state]branch{}
	for at, b := range open {
		for _, drawn := range l.lots {
			odds, rows := b.odds.Times(drawn.factor), b.rows.Times(drawn.ballots)
			if l.settles(odds) {
				settled = settled.Plus(rows)
				continue
			}
			to := state{at.won + drawn.won, at.lost + drawn.lost}
			next[to] = branch{odds, next[to].rows.Plus(rows)}
		}
	}
	return next, settled
}
