package count

import (
	"slices"

	"hustings/api"
	"hustings/ballot"
)

const ballotsMost = 4096

// poll is a contest, what was voted in it, and what its lots come of. Nothing is wrong with it.
type poll struct {
	contest api.Contest
	ballots [][]int
	lots    string
}

// withPoll goes on with a poll, if nothing is wrong with what is handed in.
func withPoll[A any](c api.Contest, ballots [][]int, lots string, then func(poll) A) (A, api.Errno) {
	var none A
	if e := wrongContest(c); e != api.OK {
		return none, e
	}
	if e := wrongBallots(c, ballots); e != api.OK {
		return none, e
	}
	return then(poll{c, ballots, lots}), api.OK
}

func wrongBallots(c api.Contest, ballots [][]int) api.Errno {
	if len(ballots) > ballotsMost {
		return api.ErrLong
	}
	for _, b := range ballots {
		if len(b) != len(c.Options) {
			return api.ErrForm
		}
	}
	return api.OK
}

// counted are the ballots that are not blank.
func (p poll) counted() [][]int {
	var out [][]int
	for _, b := range p.ballots {
		if ballot.Fits(p.contest, b) == api.OK && slices.ContainsFunc(b, aboveZero) {
			out = append(out, b)
		}
	}
	return out
}

func aboveZero(n int) bool { return n > 0 }

// ranked is the poll with its numbers taken as ranks, whatever its rule.
func (p poll) ranked() poll {
	p.contest.Rule = api.RuleTransfer
	return p
}

// pairs tells of each two options on how many ballots the first one stands ahead of the second.
func (p poll) pairs() [][]int {
	out := zeros(len(p.contest.Options))
	for _, b := range p.ranked().counted() {
		for i, row := range out {
			for j := range row {
				if ahead(b[i], b[j]) {
					row[j]++
				}
			}
		}
	}
	return out
}

// ahead tells whether a rank is one, and ahead of another one, if that is one too.
func ahead(rank, other int) bool { return rank != 0 && (other == 0 || rank < other) }

// elected are those who are, by the contest's rule.
func (p poll) elected() []int {
	switch p.contest.Rule {
	case api.RuleTransfer:
		return p.transferred().Elected
	case api.RulePairs:
		return p.unbeaten()
	}
	return p.mostMarked()
}

// mostMarked are those whom the most ballots mark.
func (p poll) mostMarked() []int {
	totals := make([]int, len(p.contest.Options))
	for _, b := range p.counted() {
		for i, mark := range b {
			totals[i] += mark
		}
	}
	return most(p.contest, totals, p.lots)
}

// unbeaten is the one drawn first of those to whom nobody has a stronger way than they have back.
func (p poll) unbeaten() []int {
	ways := square(square(p.pairs()).paths())
	for _, i := range drawn(p.contest, p.lots) {
		if !ways.anyBeats(i) {
			return []int{i}
		}
	}
	return nil
}
