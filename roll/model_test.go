package roll_test

import (
	"fmt"
	"math/big"
	"slices"

	"hustings/api"
	"hustings/fold"
	"hustings/sigma"
)

// wrongModel is what is wrong with a manifest: all of it is gathered, and the first in the document's order told.
func wrongModel(m api.Manifest) api.Errno {
	f := faults{}
	f.add(api.ErrKind, m.Kind != api.Tiny && m.Kind != api.Short && m.Kind != api.Full)
	f.word(m.Name)
	f.size(len(m.Trustees), 8)
	f.number(m.Need, 1, len(m.Trustees))
	f.number(m.Mixes, 0, 8)
	f.add(api.ErrLong, len(m.Lots) > 64)
	for _, k := range append(slices.Clone(m.Trustees), m.Registrar, m.Clerk) {
		f.add(api.ErrElem, !isElem(m.Kind, k))
	}
	f.size(len(m.Contests), 16)
	var names []string
	for _, c := range m.Contests {
		f.contest(c)
		names = append(names, c.Name)
	}
	f.unlike(names)
	f.size(len(m.Styles), 16)
	names = nil
	for _, s := range m.Styles {
		f.style(s, len(m.Contests))
		names = append(names, s.Name)
	}
	f.unlike(names)
	f.size(len(m.Precincts), 64)
	names = nil
	for _, p := range m.Precincts {
		f.word(p.Name)
		f.number(p.Style, 0, len(m.Styles)-1)
		names = append(names, p.Name)
	}
	f.unlike(names)
	for _, e := range []api.Errno{api.ErrKind, api.ErrLong, api.ErrForm, api.ErrRange, api.ErrTwice, api.ErrElem} {
		if f[e] {
			return e
		}
	}
	return api.OK
}

type faults map[api.Errno]bool

func (f faults) add(e api.Errno, wrong bool) { f[e] = f[e] || wrong }

func (f faults) size(n, most int) {
	f.add(api.ErrForm, n == 0)
	f.add(api.ErrLong, n > most)
}

func (f faults) number(n, least, most int) { f.add(api.ErrRange, n < least || n > most) }

func (f faults) word(s string) {
	f.size(len(s), 32)
	for _, b := range []byte(s) {
		f.add(api.ErrForm, b <= ' ' || b >= 127)
	}
}

func (f faults) unlike(l []string) {
	for i := range l {
		f.add(api.ErrTwice, slices.Contains(l[:i], l[i]))
	}
}

func (f faults) contest(c api.Contest) {
	f.word(c.Name)
	f.size(len(c.Options), 12)
	for _, o := range c.Options {
		f.word(o)
	}
	f.unlike(c.Options)
	f.number(c.Rule, 1, 4)
	f.number(c.Seats, 1, map[bool]int{true: 1, false: len(c.Options)}[c.Rule == api.RulePairs])
	if c.Rule == api.RulePlural {
		f.number(c.Most, 1, len(c.Options))
	} else {
		f.number(c.Most, 0, 0)
	}
}

func (f faults) style(s api.Style, contests int) {
	f.word(s.Name)
	f.size(len(s.Contests), 16)
	for i, place := range s.Contests {
		f.number(place, 0, contests-1)
		f.add(api.ErrForm, i > 0 && s.Contests[i-1] >= place)
	}
}

// isElem tells whether bytes are an element, by chapter 3's table.
func isElem(kind int, s string) bool {
	h, ok := map[int]*big.Int{api.Tiny: big.NewInt(5), api.Short: big.NewInt(268437635), api.Full: new(big.Int).Add(new(big.Int).Lsh(big.NewInt(1), 125), big.NewInt(9087))}[kind]
	if !ok || len(s) != map[int]int{api.Tiny: 2, api.Short: 8, api.Full: 32}[kind] {
		return false
	}
	order := new(big.Int).Lsh(h, map[int]uint{api.Tiny: 7, api.Short: 31, api.Full: 127}[kind])
	order.Add(order, big.NewInt(1))
	n := new(big.Int).SetBytes([]byte(s))
	return n.Sign() > 0 && n.Cmp(order) <= 0
}

// formModel is how a manifest is written, whatever is wrong with it.
func formModel(m api.Manifest) string {
	contests, styles, precincts := "", "", ""
	for _, c := range m.Contests {
		contests += "(" + leaf(c.Name) + "(" + leaves(c.Options) + ")" + leaf(c.Rule) + leaf(c.Seats) + leaf(c.Most) + ")"
	}
	for _, s := range m.Styles {
		styles += "(" + leaf(s.Name) + "(" + leaves(s.Contests) + "))"
	}
	for _, p := range m.Precincts {
		precincts += "(" + leaf(p.Name) + leaf(p.Style) + ")"
	}
	again := 0
	if m.Again {
		again = 1
	}
	return "(8:manifest" + leaf(m.Kind) + leaf(m.Name) + "(" + contests + ")(" + styles + ")(" + precincts + ")(" + leaves(m.Trustees) + ")" +
		leaf(m.Need) + leaf(m.Mixes) + leaf(m.Registrar) + leaf(m.Clerk) + leaf(again) + leaf(m.Lots) + ")"
}

func leaf(v any) string {
	s := fmt.Sprint(v)
	return fmt.Sprint(len(s)) + ":" + s
}

func leaves[T any](l []T) string {
	out := ""
	for _, x := range l {
		out += leaf(x)
	}
	return out
}

func digestModel(m api.Manifest) string { return fold.Tag("manifest", []string{formModel(m)}) }

func textModel(m api.Manifest, n int, c api.Change) string {
	four := func(n int) string { return string([]byte{byte(n >> 24), byte(n >> 16), byte(n >> 8), byte(n)}) }
	return fold.Tag("change", []string{digestModel(m), four(n), four(c.Do), c.Id, four(c.Precinct), c.Key})
}

// rollModel is all changes that were applied: everything is found out by going through them.
type rollModel struct {
	m       api.Manifest
	applied []api.Change
}

// find is who stands on the roll, and whether the id ever did.
func (r *rollModel) find(id string) (v api.Voter, stands, ever bool) {
	for _, c := range r.applied {
		if c.Id != id {
			continue
		}
		switch c.Do {
		case api.ChangeJoin:
			v, stands, ever = api.Voter{Id: id, Precinct: c.Precinct, Key: c.Key}, true, true
		case api.ChangeMove:
			v.Precinct = c.Precinct
		case api.ChangeKey:
			v.Key = c.Key
		case api.ChangeStrike:
			v, stands = api.Voter{}, false
		}
	}
	return v, stands, ever
}

func (r *rollModel) voters() []api.Voter {
	var ids []string
	for _, c := range r.applied {
		ids = append(ids, c.Id)
	}
	slices.Sort(ids)
	var out []api.Voter
	for _, id := range slices.Compact(ids) {
		if v, stands, _ := r.find(id); stands {
			out = append(out, v)
		}
	}
	return out
}

func (r *rollModel) apply(c api.Change) api.Errno {
	e := r.wrong(c)
	if e == api.OK {
		r.applied = append(r.applied, c)
	}
	return e
}

func (r *rollModel) wrong(c api.Change) api.Errno {
	hasPrecinct := c.Do == api.ChangeJoin || c.Do == api.ChangeMove
	hasKey := c.Do == api.ChangeJoin || c.Do == api.ChangeKey
	id := faults{}
	id.word(c.Id)
	if c.Do < 1 || c.Do > 4 || id[api.ErrForm] || id[api.ErrLong] || !hasPrecinct && c.Precinct != 0 || !hasKey && c.Key != "" {
		return api.ErrForm
	}
	if hasPrecinct && (c.Precinct < 0 || c.Precinct >= len(r.m.Precincts)) {
		return api.ErrRange
	}
	if hasKey && !isElem(r.m.Kind, c.Key) {
		return api.ErrElem
	}
	if !sigma.Signed(r.m.Kind, r.m.Registrar, textModel(r.m, len(r.applied), c), c.Sign) {
		return api.ErrProof
	}
	_, stands, ever := r.find(c.Id)
	if c.Do == api.ChangeJoin && ever {
		return api.ErrTwice
	}
	if c.Do != api.ChangeJoin && !stands {
		return api.ErrNone
	}
	joined := 0
	for _, old := range r.applied {
		if hasKey && old.Key == c.Key {
			return api.ErrTwice
		}
		if old.Do == api.ChangeJoin {
			joined++
		}
	}
	if c.Do == api.ChangeJoin && joined >= 4096 {
		return api.ErrFull
	}
	return api.OK
}
