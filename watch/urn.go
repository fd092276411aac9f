package watch

import (
	"hustings/api"
	"hustings/ballot"
	"hustings/booth"
	"hustings/fold"
	"hustings/sigma"
)

// castMost is how many voters can cast a ballot.
const castMost = 256

// urn is what comes while the polls are open.
type urn struct {
	ballots []hidden            // those that count, in the order of their voters' first ones
	places  map[string]int      // by voter: where theirs is among these
	codes   map[string]struct{} // of all that were cast or opened
}

// hidden is what is kept of a ballot that counts.
type hidden struct {
	precinct int
	parts    map[int][]api.Cipher // by contest
}

func (w *Watcher) beginUrn() {
	w.urn = urn{places: map[string]int{}, codes: map[string]struct{}{}}
}

// cast takes a ballot that is cast.
func (w *Watcher) cast(c api.Cast) api.Errno {
	v, ok := w.voters.Find(c.Ballot.Voter)
	if !ok || v.Precinct != c.Ballot.Precinct {
		return api.ErrRight
	}
	e := ballot.Good(w.m, w.key, c.Ballot)
	if e == api.OK && !w.genuine(c, v) {
		e = api.ErrProof
	}
	if e == api.OK {
		e = w.urn.hinders(c, w.m.Again)
	}
	if e == api.OK {
		w.urn.put(c, w.kept(c.Ballot))
	}
	return e
}

// genuine tells whether a ballot has the code that it tells, and is signed by its voter.
func (w *Watcher) genuine(c api.Cast, v api.Voter) bool {
	code, e := booth.Code(c.Prev, c.Ballot)
	return e == api.OK && code == c.Code && sigma.Signed(w.m.Kind, v.Key, castText(w.digest, c.Code), c.Sign)
}

// castText is what is signed of a ballot that is cast.
func castText(digest, code string) string { return fold.Tag("cast", []string{digest, code}) }

// kept is what is kept of a ballot that nothing is wrong with.
func (w *Watcher) kept(b api.Ballot) hidden {
	h := hidden{b.Precinct, map[int][]api.Cipher{}}
	for i, contest := range w.contestsOf(b.Precinct) {
		h.parts[contest] = b.Parts[i].Ciphers
	}
	return h
}

// contestsOf are the contests that stand on the ballots of a precinct.
func (w *Watcher) contestsOf(precinct int) []int {
	return w.m.Styles[w.m.Precincts[precinct].Style].Contests
}

// opened takes a ballot that was looked into.
func (w *Watcher) opened(o api.Opening) api.Errno {
	e := booth.Recheck(w.m, w.key, o)
	if e == api.OK && w.urn.knows(o.Code) {
		e = api.ErrTwice
	}
	if e == api.OK {
		w.urn.note(o.Code)
	}
	return e
}

// knows tells whether a code stands in the record.
func (u *urn) knows(code string) bool {
	_, ok := u.codes[code]
	return ok
}

func (u *urn) note(code string) { u.codes[code] = struct{}{} }

// hinders tells what hinders a ballot that is right, as the urn is.
func (u *urn) hinders(c api.Cast, again bool) api.Errno {
	_, voted := u.places[c.Ballot.Voter]
	switch {
	case u.knows(c.Code) || voted && !again:
		return api.ErrTwice
	case !voted && len(u.ballots) >= castMost:
		return api.ErrFull
	}
	return api.OK
}

// put lets a ballot count, in the place of the one that its voter cast ahead of it, if there is one.
func (u *urn) put(c api.Cast, h hidden) {
	u.note(c.Code)
	place, voted := u.places[c.Ballot.Voter]
	if voted {
		u.ballots[place] = h
		return
	}
	u.places[c.Ballot.Voter] = len(u.ballots)
	u.ballots = append(u.ballots, h)
}

// rows are the ciphers of a contest, of each ballot that has it, in order.
func (u *urn) rows(contest int) [][]api.Cipher {
	var out [][]api.Cipher
	for _, b := range u.ballots {
		if row, ok := b.parts[contest]; ok {
			out = append(out, row)
		}
	}
	return out
}

// rowsIn are those of one precinct alone.
func (u *urn) rowsIn(precinct, contest int) [][]api.Cipher {
	var here urn
	for _, b := range u.ballots {
		if b.precinct == precinct {
			here.ballots = append(here.ballots, b)
		}
	}
	return here.rows(contest)
}
