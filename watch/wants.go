package watch

import (
	"hustings/api"
	"hustings/ballot"
	"hustings/kit"
	"hustings/tally"
)

// wants is how far what is hidden is opened.
type wants struct {
	list    []want
	missing int   // so many of these are not opened
	turnout []int // by precinct: how many ballots count
}

// want is a cipher that is to be opened.
type want struct {
	cipher api.Cipher
	most   int         // no greater number is looked for
	shares []api.Share // of one that is not opened
	opened bool
	number int // what it hides, of one that is opened
}

// noNumber stands for what a cipher hides that is none of the numbers that are looked for.
const noNumber = -1

// beginWants: each thing that is wanted is a cipher of its own, so the ballots and rows are needed no more.
func (w *Watcher) beginWants() {
	w.wants.turnout = make([]int, len(w.m.Precincts))
	for _, b := range w.urn.ballots {
		w.wants.turnout[b.precinct]++
	}
	for contest, c := range w.m.Contests {
		if kit.Ranks(c) {
			w.wantRows(contest)
		} else {
			w.wantSums(contest)
		}
	}
	w.urn, w.mixes = urn{}, mixes{}
	w.wants.missing = len(w.wants.list)
	w.openOn()
}

// wantRows: of ranks each number.
func (w *Watcher) wantRows(contest int) {
	for _, row := range w.mixes.rows[contest] {
		for _, c := range row {
			w.want(c, len(row))
		}
	}
}

// wantSums: of marks the sums alone, precinct by precinct.
func (w *Watcher) wantSums(contest int) {
	for precinct := range w.m.Precincts {
		rows := w.urn.rowsIn(precinct, contest)
		if len(rows) == 0 {
			continue
		}
		for option := range w.m.Contests[contest].Options {
			sum, _ := ballot.Sum(w.m.Kind, column(rows, option))
			w.want(sum, len(rows))
		}
	}
}

// column is what rows have at one place.
func column(rows [][]api.Cipher, place int) []api.Cipher {
	var out []api.Cipher
	for _, row := range rows {
		out = append(out, row[place])
	}
	return out
}

func (w *Watcher) want(c api.Cipher, most int) {
	w.wants.list = append(w.wants.list, want{cipher: c, most: most})
}

// openOn: when all is opened, the record is done.
func (w *Watcher) openOn() {
	if w.wants.missing == 0 {
		w.enter(api.PhaseDone)
	}
}

// end: nothing comes any more that is hidden with the key.
func (w *Watcher) end() { w.key = "" }

// unwanted tells whether there is no such cipher.
func (w *Watcher) unwanted(i int) bool { return i < 0 || i >= len(w.wants.list) }

// share takes a share of a cipher, and opens it, if it is the last one that is needed.
func (w *Watcher) share(p part) api.Errno {
	if w.unwanted(p.which) {
		return api.ErrRange
	}
	x, label := &w.wants.list[p.which], w.Label(p.which)
	switch {
	case x.opened:
		return api.ErrFull
	case x.sharedBy(p.Trustee):
		return api.ErrTwice
	case !tally.Right(w.m, label, x.cipher, p.Share):
		return api.ErrProof
	}
	x.shares = append(x.shares, p.Share)
	if len(x.shares) == w.m.Need {
		x.open(w.m, label)
		w.wants.missing--
		w.openOn()
	}
	return api.OK
}

func (x *want) sharedBy(trustee int) bool {
	for _, s := range x.shares {
		if s.Trustee == trustee {
			return true
		}
	}
	return false
}

// open looks for what is hidden. Nothing is wrong with the shares: so nothing can come but that there is no such number.
func (x *want) open(m api.Manifest, label string) {
	number, e := tally.Open(m, label, x.cipher, x.shares, x.most)
	if e != api.OK {
		number = noNumber
	}
	x.number, x.opened, x.shares = number, true, nil
}
