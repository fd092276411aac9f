package watch_test

import (
	"slices"

	"hustings/api"
	"hustings/ballot"
	"hustings/board"
	"hustings/booth"
	"hustings/count"
	"hustings/fold"
	"hustings/mix"
	"hustings/roll"
	"hustings/sigma"
	"hustings/tally"
)

// model is a watcher that is written after the document's words: it keeps all entries, and works out anew each time what it
// tells.
type model struct {
	texts []string
	said  []*thing

	wishes []wish // when all was mixed: they are the same from then on
}

// all are the entries of a kind.
func (d *model) all(kind string) []*thing {
	var out []*thing
	for _, x := range d.said {
		if x.kind == kind {
			out = append(out, x)
		}
	}
	return out
}

func (d *model) manifest() api.Manifest { return d.all("manifest")[0].m }

func (d *model) digest() string {
	s, _ := roll.Digest(d.manifest())
	return s
}

func (d *model) key() string {
	s, _ := tally.Key(d.manifest())
	return s
}

func (d *model) roll() *roll.Roll {
	r, _ := roll.Open(d.manifest())
	for _, x := range d.all("change") {
		r.Apply(x.change)
	}
	return r
}

func (d *model) head() (int, string) {
	blocks, _ := board.Blocks(d.texts, 0, len(d.texts))
	h, _ := board.Head(len(d.texts), blocks)
	return len(d.texts), h
}

// Z2: the phase.
func (d *model) phase() int {
	switch {
	case len(d.said) == 0:
		return api.PhaseNone
	case len(d.all("open")) == 0:
		return api.PhaseRoll
	case len(d.all("close")) == 0:
		return api.PhaseOpen
	case len(d.all("mix")) < len(d.toMix()):
		return api.PhaseMix
	}
	shares := map[int]int{}
	for _, x := range d.all("share") {
		shares[x.which]++
	}
	for i := range d.wanted() {
		if shares[i] < d.manifest().Need {
			return api.PhaseShare
		}
	}
	return api.PhaseDone
}

// phaseOf is the one that a kind of entries can come in.
func phaseOf(kind string) int {
	switch kind {
	case "manifest":
		return api.PhaseNone
	case "change", "open":
		return api.PhaseRoll
	case "cast", "opened", "close":
		return api.PhaseOpen
	case "mix":
		return api.PhaseMix
	}
	return api.PhaseShare
}

func (d *model) see(x thing, text string) api.Errno {
	e := api.ErrState
	if phaseOf(x.kind) == d.phase() {
		e = d.judge(x)
	}
	if e == api.OK {
		d.said, d.texts = append(d.said, &x), append(d.texts, text)
	}
	return e
}

func (d *model) judge(x thing) api.Errno {
	switch x.kind {
	case "manifest":
		_, e := tally.Key(x.m)
		return e
	case "change":
		return d.roll().Apply(x.change)
	case "open", "close":
		size, head := d.head()
		if x.stamp.Size != size || x.stamp.Head != head || !board.Signed(d.manifest().Kind, d.manifest().Clerk, d.digest(), x.stamp) {
			return api.ErrProof
		}
		return api.OK
	case "cast":
		return d.judgeCast(x.cast)
	case "opened":
		if e := booth.Recheck(d.manifest(), d.key(), x.opening); e != api.OK {
			return e
		}
		if d.known(x.opening.Code) {
			return api.ErrTwice
		}
		return api.OK
	case "mix":
		next := d.next()
		if x.contest != next[0].(int) {
			return api.ErrRight
		}
		return mix.Check(d.manifest().Kind, d.key(), next[1].(string), next[2].([][]api.Cipher), x.mixed)
	}
	return d.judgeShare(x.which, x.share)
}

// Z4.
func (d *model) judgeCast(c api.Cast) api.Errno {
	m := d.manifest()
	var voter *api.Voter
	for v := range d.roll().Voters() {
		if v.Id == c.Ballot.Voter && v.Precinct == c.Ballot.Precinct {
			voter = &v
		}
	}
	if voter == nil {
		return api.ErrRight
	}
	if e := ballot.Good(m, d.key(), c.Ballot); e != api.OK {
		return e
	}
	if code, e := booth.Code(c.Prev, c.Ballot); e != api.OK || code != c.Code {
		return api.ErrProof
	}
	if !sigma.Signed(m.Kind, voter.Key, fold.Tag("cast", []string{d.digest(), c.Code}), c.Sign) {
		return api.ErrProof
	}
	if d.known(c.Code) {
		return api.ErrTwice
	}
	own, others := 0, 0
	for _, b := range d.counting() {
		if b.Voter == voter.Id {
			own++
		} else {
			others++
		}
	}
	switch {
	case own > 0 && !m.Again:
		return api.ErrTwice
	case others == 256:
		return api.ErrFull
	}
	return api.OK
}

func (d *model) known(code string) bool {
	for _, x := range d.said {
		if x.kind == "cast" && x.cast.Code == code || x.kind == "opened" && x.opening.Code == code {
			return true
		}
	}
	return false
}

// counting are the ballots that count, in order.
func (d *model) counting() []api.Ballot {
	var out []api.Ballot
	for _, x := range d.all("cast") {
		i := slices.IndexFunc(out, func(b api.Ballot) bool { return b.Voter == x.cast.Ballot.Voter })
		if i < 0 {
			out = append(out, x.cast.Ballot)
		} else {
			out[i] = x.cast.Ballot
		}
	}
	return out
}

func ranks(c api.Contest) bool { return c.Rule == api.RuleTransfer || c.Rule == api.RulePairs }

// having are the ciphers of a contest, of the ballots that count and have it, in some precincts.
func (d *model) having(contest int, in func(precinct int) bool) [][]api.Cipher {
	m := d.manifest()
	var out [][]api.Cipher
	for _, b := range d.counting() {
		for i, place := range m.Styles[m.Precincts[b.Precinct].Style].Contests {
			if place == contest && in(b.Precinct) {
				out = append(out, b.Parts[i].Ciphers)
			}
		}
	}
	return out
}

func anywhere(int) bool { return true }

// toMix are the contests of all mixes, one behind the other.
func (d *model) toMix() []int {
	var out []int
	for contest, c := range d.manifest().Contests {
		if ranks(c) && len(d.having(contest, anywhere)) > 0 {
			out = append(out, slices.Repeat([]int{contest}, d.manifest().Mixes)...)
		}
	}
	return out
}

// rows are those of a contest, behind so many mixes of all.
func (d *model) rows(contest int) [][]api.Cipher {
	rows := d.having(contest, anywhere)
	for _, x := range d.all("mix") {
		if x.contest == contest {
			rows = x.mixed.Out
		}
	}
	return rows
}

// Z5: the contest, the label, the rows, the errno.
func (d *model) next() []any {
	if d.phase() != api.PhaseMix {
		return []any{0, "", [][]api.Cipher(nil), api.ErrState}
	}
	done := d.all("mix")
	contest, times := d.toMix()[len(done)], 0
	for _, x := range done {
		if x.contest == contest {
			times++
		}
	}
	return []any{contest, fold.Tag("mixed", []string{d.digest(), four(contest), four(times)}), d.rows(contest), api.OK}
}

// wish is a cipher that is wanted, and the greatest number that it can hide.
type wish struct {
	c    api.Cipher
	most int
}

// Z6: asked for when all is mixed alone.
func (d *model) wanted() []wish {
	if d.wishes == nil {
		d.wishes = d.wantedAnew()
	}
	return d.wishes
}

func (d *model) wantedAnew() []wish {
	m := d.manifest()
	var out []wish
	for contest, c := range m.Contests {
		if ranks(c) {
			for _, row := range d.rows(contest) {
				for _, cipher := range row {
					out = append(out, wish{cipher, len(c.Options)})
				}
			}
			continue
		}
		for precinct := range m.Precincts {
			rows := d.having(contest, func(p int) bool { return p == precinct })
			for option := range c.Options {
				var l []api.Cipher
				for _, row := range rows {
					l = append(l, row[option])
				}
				if len(l) > 0 {
					sum, _ := ballot.Sum(m.Kind, l)
					out = append(out, wish{sum, len(l)})
				}
			}
		}
	}
	return out
}

func (d *model) wantedCiphers() []api.Cipher {
	var out []api.Cipher
	if d.phase() > api.PhaseMix {
		for _, x := range d.wanted() {
			out = append(out, x.c)
		}
	}
	return out
}

// labels are those of all that is wanted.
func (d *model) labels() []string {
	var out []string
	if l := d.wantedCiphers(); len(l) > 0 {
		digest := d.digest()
		for i := range l {
			out = append(out, fold.Tag("want", []string{digest, four(i)}))
		}
	}
	return out
}

func (d *model) sharesOf(i int) []api.Share {
	var out []api.Share
	for _, x := range d.all("share") {
		if x.which == i {
			out = append(out, x.share)
		}
	}
	return out
}

func (d *model) judgeShare(which int, s api.Share) api.Errno {
	l := d.wantedCiphers()
	if which < 0 || which >= len(l) {
		return api.ErrRange
	}
	shares := d.sharesOf(which)
	switch {
	case len(shares) == d.manifest().Need:
		return api.ErrFull
	case slices.ContainsFunc(shares, func(o api.Share) bool { return o.Trustee == s.Trustee }):
		return api.ErrTwice
	case !tally.Right(d.manifest(), d.labels()[which], l[which], s):
		return api.ErrProof
	}
	return api.OK
}

// Z7.
func (d *model) outcome() (api.Outcome, api.Errno) {
	if d.phase() != api.PhaseDone {
		return api.Outcome{}, api.ErrState
	}
	m, at := d.manifest(), 0
	wanted, labels := d.wanted(), d.labels()
	open := func() (int, api.Errno) {
		n, e := tally.Open(m, labels[at], wanted[at].c, d.sharesOf(at), wanted[at].most)
		at++
		return n, e
	}
	var out api.Outcome
	for contest, c := range m.Contests {
		r := api.Result{Ballots: len(d.having(contest, anywhere))}
		if ranks(c) {
			for range r.Ballots {
				var row []int
				for range c.Options {
					n, e := open()
					if e == api.ErrNone {
						n = -1
					}
					row = append(row, n)
				}
				r.Ranks = append(r.Ranks, row)
				if ballot.Fits(c, row) != api.OK || slices.Max(row) == 0 {
					r.Blank++
				}
			}
			slices.SortFunc(r.Ranks, slices.Compare[[]int])
			r.Elected, _ = count.Elect(c, r.Ranks, m.Lots)
			out.Results = append(out.Results, r)
			continue
		}
		sums := make([]int, len(c.Options))
		for precinct := range m.Precincts {
			totals := make([]int, len(c.Options))
			for option := range totals {
				if len(d.having(contest, func(p int) bool { return p == precinct })) == 0 {
					continue
				}
				n, e := open()
				if e == api.ErrNone {
					return api.Outcome{}, api.ErrNone
				}
				totals[option] = n
				sums[option] += n
			}
			r.Totals = append(r.Totals, totals)
		}
		r.Elected, _ = count.Most(c, sums, m.Lots)
		out.Results = append(out.Results, r)
	}
	return out, api.OK
}
