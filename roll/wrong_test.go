package roll_test

import (
	"slices"
	"strings"
	"testing"

	"hustings/api"
	"hustings/roll"
)

// fault is something that is wrong with a town, alone or with others.
type fault struct {
	what string
	e    api.Errno
	do   func(m *api.Manifest)
}

// faultsOfTowns are all that the document names. Each can be done on top of others.
func faultsOfTowns() []fault {
	out := append(wrongKinds(), wrongSizes()...)
	out = append(append(out, wrongWords()...), wrongPlaces()...)
	out = append(append(out, wrongNumbers()...), wrongContests()...)
	return append(append(out, alikeNames()...), wrongKeys()...)
}

func wrongKinds() []fault {
	var out []fault
	for _, kind := range []int{0, 4, -1, least, most, 257, 1<<32 + 2} {
		out = append(out, fault{"no kind", api.ErrKind, func(m *api.Manifest) { m.Kind = kind }})
	}
	return out
}

func wrongSizes() []fault {
	return []fault{
		{"17 contests", api.ErrLong, func(m *api.Manifest) { m.Contests = slices.Repeat(crowd(2).Contests[:1], 17) }},
		{"13 options", api.ErrLong, func(m *api.Manifest) {
			changeContest(m, func(c *api.Contest) { c.Options = slices.Repeat([]string{"o"}, 13) })
		}},
		{"17 styles", api.ErrLong, func(m *api.Manifest) { m.Styles = slices.Repeat(crowd(2).Styles[:1], 17) }},
		{"17 places", api.ErrLong, func(m *api.Manifest) {
			changeStyle(m, func(s *api.Style) { s.Contests = slices.Repeat([]int{0}, 17) })
		}},
		{"65 precincts", api.ErrLong, func(m *api.Manifest) { m.Precincts = slices.Repeat(crowd(2).Precincts[:1], 65) }},
		{"9 trustees", api.ErrLong, func(m *api.Manifest) { m.Trustees = slices.Repeat([]string{"k"}, 9) }},
		{"65 bytes of Lots", api.ErrLong, func(m *api.Manifest) { m.Lots = strings.Repeat("l", 65) }},
		{"no contests", api.ErrForm, func(m *api.Manifest) { m.Contests = nil }},
		{"no options", api.ErrForm, func(m *api.Manifest) { changeContest(m, func(c *api.Contest) { c.Options = nil }) }},
		{"no styles", api.ErrForm, func(m *api.Manifest) { m.Styles = []api.Style{} }},
		{"no places", api.ErrForm, func(m *api.Manifest) { changeStyle(m, func(s *api.Style) { s.Contests = []int{} }) }},
		{"no precincts", api.ErrForm, func(m *api.Manifest) { m.Precincts = nil }},
		{"no trustees", api.ErrForm, func(m *api.Manifest) { m.Trustees = nil }},
	}
}

// changeContest and the others change the last one, if there is one still.
func changeContest(m *api.Manifest, do func(c *api.Contest)) {
	if n := len(m.Contests); n > 0 {
		do(&m.Contests[n-1])
	}
}

func changeStyle(m *api.Manifest, do func(s *api.Style)) {
	if n := len(m.Styles); n > 0 {
		do(&m.Styles[n-1])
	}
}

func changePrecinct(m *api.Manifest, do func(p *api.Precinct)) {
	if n := len(m.Precincts); n > 0 {
		do(&m.Precincts[n-1])
	}
}

func wrongWords() []fault {
	var out []fault
	for _, w := range []string{strings.Repeat("w", 33), strings.Repeat(" ", 33), strings.Repeat("\x00", 5000)} {
		out = append(out, wrongWord(w, api.ErrLong)...)
	}
	for _, w := range []string{"", " ", "a b", "\x7f", "a\x00", "\x20", "\n", "é", "\xff", strings.Repeat("w", 31) + "\x80"} {
		out = append(out, wrongWord(w, api.ErrForm)...)
	}
	return out
}

// wrongWord is one at each place where words stand.
func wrongWord(w string, e api.Errno) []fault {
	return []fault{
		{"Name " + w, e, func(m *api.Manifest) { m.Name = w }},
		{"contest " + w, e, func(m *api.Manifest) { changeContest(m, func(c *api.Contest) { c.Name = w }) }},
		{"option " + w, e, func(m *api.Manifest) {
			changeContest(m, func(c *api.Contest) { c.Options = append(c.Options[:len(c.Options)/2:len(c.Options)/2], w) })
		}},
		{"style " + w, e, func(m *api.Manifest) { changeStyle(m, func(s *api.Style) { s.Name = w }) }},
		{"precinct " + w, e, func(m *api.Manifest) { changePrecinct(m, func(p *api.Precinct) { p.Name = w }) }},
	}
}

func wrongPlaces() []fault {
	var out []fault
	for _, l := range [][]int{{1, 0}, {0, 0}, {0, 1, 1}, {0, 2, 1}, {3, 2, 1, 0}, {4, 3}, {-1, -2}, {most, least}} {
		out = append(out, fault{"places that do not rise", api.ErrForm, func(m *api.Manifest) { changeStyle(m, func(s *api.Style) { s.Contests = l }) }})
	}
	for _, l := range [][]int{{4}, {-1}, {0, 4}, {-1, 0}, {0, 1, 2, 3, 4}, {least, most}, {1 << 32}, {16}} {
		out = append(out, fault{"places of no contest", api.ErrRange, func(m *api.Manifest) { changeStyle(m, func(s *api.Style) { s.Contests = l }) }})
	}
	for _, n := range []int{3, -1, 16, 1 << 32, least, most} {
		out = append(out, fault{"a place of no style", api.ErrRange, func(m *api.Manifest) { changePrecinct(m, func(p *api.Precinct) { p.Style = n }) }})
	}
	return out
}

func wrongNumbers() []fault {
	var out []fault
	for _, n := range []int{0, 4, 8, -1, 1<<32 + 1, least, most} {
		out = append(out, fault{"Need", api.ErrRange, func(m *api.Manifest) { m.Need = n }})
	}
	for _, n := range []int{9, -1, 1 << 32, least, most} {
		out = append(out, fault{"Mixes", api.ErrRange, func(m *api.Manifest) { m.Mixes = n }})
	}
	for _, n := range []int{0, 5, -1, 1<<32 + 1, least, most} {
		out = append(out, fault{"Rule", api.ErrRange, func(m *api.Manifest) { changeContest(m, func(c *api.Contest) { c.Rule = n }) }})
	}
	return out
}

// wrongContests have numbers that their rule does not allow: each is tried with a contest of three options.
func wrongContests() []fault {
	var out []fault
	add := func(rule, seats, marks int) {
		out = append(out, fault{"numbers of a contest", api.ErrRange, func(m *api.Manifest) {
			changeContest(m, func(c *api.Contest) {
				c.Options, c.Rule, c.Seats, c.Most = []string{"1", "2", "3"}, rule, seats, marks
			})
		}})
	}
	for _, seats := range []int{0, -1, 4, 12, 1<<32 + 1, least, most} {
		add(api.RulePlural, seats, 1)
		add(api.RuleApproval, seats, 0)
		add(api.RuleTransfer, seats, 0)
		add(api.RulePairs, seats, 0)
	}
	add(api.RulePairs, 2, 0)
	add(api.RulePairs, 3, 0)
	for _, marks := range []int{-1, 4, 12, 1<<32 + 1, least, most} {
		add(api.RulePlural, 1, marks)
	}
	add(api.RulePlural, 1, 0)
	for _, marks := range []int{-1, 1, 2, 3, 1 << 32, least, most} {
		add(api.RuleApproval, 1, marks)
		add(api.RuleTransfer, 1, marks)
		add(api.RulePairs, 1, marks)
	}
	return out
}

func alikeNames() []fault {
	return []fault{
		{"options alike", api.ErrTwice, func(m *api.Manifest) {
			changeContest(m, func(c *api.Contest) { c.Options = []string{"a", "b", "a"} })
		}},
		{"contests alike", api.ErrTwice, func(m *api.Manifest) {
			changeContest(m, func(c *api.Contest) { c.Name = m.Contests[0].Name })
		}},
		{"styles alike", api.ErrTwice, func(m *api.Manifest) { changeStyle(m, func(s *api.Style) { s.Name = m.Styles[0].Name }) }},
		{"precincts alike", api.ErrTwice, func(m *api.Manifest) {
			changePrecinct(m, func(p *api.Precinct) { p.Name = m.Precincts[0].Name })
		}},
	}
}

func wrongKeys() []fault {
	var out []fault
	none := scalar(api.Short, 0)
	for _, k := range []string{"", "key", none, "\x00" + none, scalar(api.Short, 1)[1:], strings.Repeat("\xff", 8), key(api.Tiny, 5), key(api.Full, 5), strings.Repeat("k", 100)} {
		out = append(out,
			fault{"Registrar", api.ErrElem, func(m *api.Manifest) { m.Registrar = k }},
			fault{"Clerk", api.ErrElem, func(m *api.Manifest) { m.Clerk = k }},
			fault{"trustee", api.ErrElem, func(m *api.Manifest) { m.Trustees = append(m.Trustees[:len(m.Trustees)/2:len(m.Trustees)/2], k, k) }},
		)
	}
	return out
}

func TestR1WrongNothing(t *testing.T) {
	d := dice()
	for _, kind := range []int{api.Tiny, api.Short, api.Full} {
		all := []api.Manifest{town(kind), crowd(kind), hamlet(kind)}
		for range 100 {
			all = append(all, anyManifest(d, kind))
		}
		for _, m := range all {
			if e := roll.Wrong(m); e != api.OK {
				t.Errorf("kind %d, %s: error %d comes", kind, m.Name, e)
			}
		}
	}
}

// All numbers that a contest may have, of each rule.
func TestR1WrongContests(t *testing.T) {
	for rule := -1; rule <= 6; rule++ {
		for seats := -1; seats <= 14; seats++ {
			for marks := -1; marks <= 14; marks++ {
				for _, options := range []int{0, 1, 2, 11, 12, 13} {
					m := town(api.Short)
					m.Contests[1] = api.Contest{Name: "c", Options: anyWords(dice(), options), Rule: rule, Seats: seats, Most: marks}
					if e, want := roll.Wrong(m), wrongModel(m); e != want {
						t.Fatalf("rule %d, %d options, %d seats, %d marks: error %d comes, not %d", rule, options, seats, marks, e, want)
					}
				}
			}
		}
	}
}

// All bytes, as a word and within one.
func TestR1WrongBytes(t *testing.T) {
	for b := range 256 {
		for _, s := range []string{string([]byte{byte(b)}), string([]byte{'a', byte(b)}), string([]byte{byte(b), 'a'})} {
			m := town(api.Short)
			m.Name = s
			want := api.OK
			if b < 33 || b > 126 {
				want = api.ErrForm
			}
			if e := roll.Wrong(m); e != want {
				t.Errorf("%q: error %d comes, not %d", s, e, want)
			}
		}
	}
}

func TestR1Wrong(t *testing.T) {
	for _, f := range faultsOfTowns() {
		m := clone(town(api.Short))
		f.do(&m)
		if e := roll.Wrong(m); e != f.e || wrongModel(m) != f.e {
			t.Errorf("%.50q: error %d comes, not %d (the model tells %d)", f.what, e, f.e, wrongModel(m))
		}
	}
}

// Whatever is wrong at once, and wherever: the first in the document's order is told.
func TestR1WrongOrder(t *testing.T) {
	all := faultsOfTowns()
	for i, f := range all {
		for k, g := range all {
			if (i+k)%3 != 0 {
				continue // enough of them
			}
			m := clone(town(api.Short))
			f.do(&m)
			g.do(&m)
			if e, want := roll.Wrong(m), wrongModel(m); e != want {
				t.Errorf("%.50q, then %.50q: error %d comes, not %d", f.what, g.what, e, want)
			}
		}
	}
	d := dice()
	for range 3000 {
		m := clone(anyManifest(d, api.Short))
		for range 1 + d.IntN(4) {
			all[d.IntN(len(all))].do(&m)
		}
		if e, want := roll.Wrong(m), wrongModel(m); e != want {
			t.Errorf("error %d comes, not %d", e, want)
		}
	}
}

// What is wrong stands anywhere: at the first place, the last, and between.
func TestR1WrongAnywhere(t *testing.T) {
	right := crowd(api.Short)
	try := func(what string, want api.Errno, do func(m *api.Manifest)) {
		t.Helper()
		m := clone(right)
		do(&m)
		if e := roll.Wrong(m); e != want {
			t.Errorf("%s: error %d comes, not %d", what, e, want)
		}
	}
	for i := range 16 {
		try("a contest's name", api.ErrForm, func(m *api.Manifest) { m.Contests[i].Name = "" })
		try("a contest's seats", api.ErrRange, func(m *api.Manifest) { m.Contests[i].Seats = 13 })
		try("a contest's options", api.ErrLong, func(m *api.Manifest) { m.Contests[i].Options = append(m.Contests[i].Options, "o") })
		try("a style's name", api.ErrLong, func(m *api.Manifest) { m.Styles[i].Name += "x" })
		for k := range 12 {
			try("an option", api.ErrForm, func(m *api.Manifest) { m.Contests[i].Options[k] = " " })
			try("two options", api.ErrTwice, func(m *api.Manifest) { m.Contests[i].Options[k] = m.Contests[i].Options[(k+5)%12] })
		}
		for k := range 16 {
			try("a place", api.ErrForm, func(m *api.Manifest) { m.Styles[i].Contests[k] = (k + 8) % 16 })
		}
		try("a last place", api.ErrRange, func(m *api.Manifest) { m.Styles[i].Contests[15] = 16 })
		try("a first place", api.ErrRange, func(m *api.Manifest) { m.Styles[i].Contests[0] = -1 })
		try("two contests", api.ErrTwice, func(m *api.Manifest) { m.Contests[i].Name = m.Contests[(i+3)%16].Name })
		try("two styles", api.ErrTwice, func(m *api.Manifest) { m.Styles[i].Name = m.Styles[(i+3)%16].Name })
	}
	for i := range 64 {
		try("a precinct", api.ErrRange, func(m *api.Manifest) { m.Precincts[i].Style = 16 })
		try("two precincts", api.ErrTwice, func(m *api.Manifest) { m.Precincts[i].Name = m.Precincts[(i+9)%64].Name })
	}
	for i := range 8 {
		try("a trustee", api.ErrElem, func(m *api.Manifest) { m.Trustees[i] = scalar(api.Short, 0) })
	}
}

func TestE1Huge(t *testing.T) {
	m := town(api.Short)
	m.Contests = make([]api.Contest, 1<<20)
	if e := roll.Wrong(m); e != api.ErrLong {
		t.Errorf("very many contests: error %d", e)
	}
	m = town(api.Short)
	m.Lots, m.Name = strings.Repeat("l", 1<<24), strings.Repeat("n", 1<<24)
	if e := roll.Wrong(m); e != api.ErrLong {
		t.Errorf("very long texts: error %d", e)
	}
	if e := roll.Wrong(api.Manifest{}); e != api.ErrKind {
		t.Errorf("nothing: error %d", e)
	}
	if e := roll.Wrong(api.Manifest{Kind: api.Full}); e != api.ErrForm {
		t.Errorf("nothing but a kind: error %d", e)
	}
}
