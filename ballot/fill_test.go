package ballot_test

import (
	"fmt"
	"slices"
	"strings"
	"testing"

	"hustings/api"
	"hustings/ballot"
)

func TestC3Fill(t *testing.T) {
	kinds(t, func(t *testing.T, r ring) {
		m := r.town()
		check := func(key, voter string, precinct int, choices [][]int, seed string) {
			t.Helper()
			b, e := ballot.Fill(m, key, voter, precinct, choices, seed)
			same(t, "Fill", b, e, r.fillModel(m, key, voter, precinct, choices, seed))
			tells(t, "Good", ballot.Good(m, key, b), api.OK)
		}
		check(r.public(), "eve", 0, townChoices(), "seed")
		check(r.public(), "eve", 3, townChoices(), "")
		check(r.public(), "eve", 0, [][]int{{0, 0, 0}, {0, 0, 0}, {0, 0, 0, 0}, {0, 0}}, "seed")
		check(r.public(), "eve", 0, [][]int{{0, 1, 1}, {3, 1, 2}, {0, 0, 0, 1}, {2, 1}}, strings.Repeat("\x00", 1000))
		check(r.public(), "!", 1, [][]int{{0, 1, 1, 0}}, "seed")
		check(r.public(), strings.Repeat("~", 32), 2, [][]int{{0, 1, 2}, {1, 2}}, "seed")
		// Of these keys everybody knows the secret: they are elements all the same.
		check(r.small(1), "eve", 0, townChoices(), "seed")
		check(r.small(2), "eve", 0, townChoices(), "seed")
		check(r.text(r.order), "eve", 0, townChoices(), "seed")
	})
}

func TestC3Random(t *testing.T) {
	kinds(t, func(t *testing.T, r ring) {
		d := dice()
		for n := range 12 {
			m := r.anyTown(d)
			precinct := d.IntN(len(m.Precincts))
			choices, key, voter, seed := anyChoices(d, m, precinct), r.any(d), fmt.Sprint("v", n), fmt.Sprint(d.Int())
			b, e := ballot.Fill(m, key, voter, precinct, choices, seed)
			same(t, "Fill", b, e, r.fillModel(m, key, voter, precinct, choices, seed))
			tells(t, "Good", ballot.Good(m, key, b), api.OK)
		}
	})
}

// TestC3Most: as many contests with as many options as there may be, at the last precinct.
func TestC3Most(t *testing.T) {
	r := ringOf(api.Short)
	for rule := 1; rule <= 4; rule++ {
		m := r.crowd(rule)
		var choices [][]int
		for i := range m.Contests {
			choice := make([]int, 12)
			for k := range choice {
				choice[k] = 1
				if rule > api.RuleApproval {
					choice[k] = 1 + (i+k)%12
				}
			}
			choices = append(choices, choice)
		}
		b, e := ballot.Fill(m, r.public(), "eve", 63, choices, "seed")
		same(t, "Fill", b, e, r.fillModel(m, r.public(), "eve", 63, choices, "seed"))
		tells(t, "Good", ballot.Good(m, r.public(), b), api.OK)
		got, e := ballot.Open(m, r.secret(), b)
		same(t, "Open", got, e, choices)
	}
}

// TestC3Nonces: no two ciphers of a ballot have the same nonce, nor have those of two seeds.
func TestC3Nonces(t *testing.T) {
	r := ringOf(api.Short)
	m := r.crowd(api.RuleApproval)
	choices := slices.Repeat([][]int{make([]int, 12)}, 16)
	seen := map[string]bool{}
	for _, seed := range []string{"a", "b"} {
		b, _ := ballot.Fill(m, r.public(), "eve", 0, choices, seed)
		for _, p := range b.Parts {
			for _, c := range p.Ciphers {
				if seen[c.A] {
					t.Errorf("%x a second time", c.A)
				}
				seen[c.A] = true
			}
		}
	}
	if len(seen) != 2*16*12 {
		t.Errorf("%d ciphers", len(seen))
	}
}

// filling is what Fill is handed.
type filling struct {
	m          api.Manifest
	key, voter string
	precinct   int
	choices    [][]int
}

// fillFault is something that is wrong, in the order in which that is told.
type fillFault struct {
	name string
	rank int
	e    api.Errno
	do   func(f *filling)
}

func fillFaults(r ring) []fillFault {
	out := []fillFault{
		{"no contests", 0, api.ErrForm, func(f *filling) { f.m.Contests = nil }},
		{"need", 0, api.ErrRange, func(f *filling) { f.m.Need = 0 }},
		{"names", 0, api.ErrTwice, func(f *filling) { f.m.Precincts[3].Name = "north" }},
		{"clerk", 0, api.ErrElem, func(f *filling) { f.m.Clerk = "" }},
		{"lots", 0, api.ErrLong, func(f *filling) { f.m.Lots = strings.Repeat("x", 65) }},
		{"one choice more", 4, api.ErrForm, func(f *filling) { f.choices = append(f.choices, []int{1}) }},
		{"one choice less", 4, api.ErrForm, func(f *filling) { f.choices = f.choices[:3] }},
		{"no choices", 4, api.ErrForm, func(f *filling) { f.choices = nil }},
		{"many", 4, api.ErrForm, func(f *filling) { f.choices = make([][]int, 1<<20) }},
		{"too many marks", 5, api.ErrRange, func(f *filling) { f.choices[0] = []int{1, 1, 1} }},
		{"too few numbers", 5, api.ErrForm, func(f *filling) { f.choices[0] = []int{1, 1} }},
		{"no numbers", 5, api.ErrForm, func(f *filling) { f.choices[0] = nil }},
		{"no ranks", 6, api.ErrRange, func(f *filling) { f.choices[1] = []int{1, 1, 0} }},
		{"too many ranks", 6, api.ErrForm, func(f *filling) { f.choices[1] = []int{1, 2, 3, 0} }},
		{"no mark", 7, api.ErrRange, func(f *filling) { f.choices[2] = []int{1, 2, 0, 0} }},
		{"below 0", 8, api.ErrRange, func(f *filling) { f.choices[3] = []int{-1, 0} }},
		{"too few ranks", 8, api.ErrForm, func(f *filling) { f.choices[3] = []int{1} }},
	}
	for _, kind := range noKinds() {
		out = append(out, fillFault{"no kind", 0, api.ErrKind, func(f *filling) { f.m.Kind = kind }})
	}
	for _, none := range r.noElems() {
		out = append(out, fillFault{"key", 1, api.ErrElem, func(f *filling) { f.key = none }})
	}
	for _, none := range []string{"", "a b", "\x7f", strings.Repeat("a", 33), "eve\n"} {
		out = append(out, fillFault{"voter", 2, api.ErrForm, func(f *filling) { f.voter = none }})
	}
	for _, none := range []int{-1, 4, 64, least, most, 1 << 32} {
		out = append(out, fillFault{"precinct", 3, api.ErrRange, func(f *filling) { f.precinct = none }})
	}
	return out
}

// TestC3Wrong: each fault by itself, and each two together: the first one is told.
func TestC3Wrong(t *testing.T) {
	r := ringOf(api.Short)
	check := func(told fillFault, others ...fillFault) {
		t.Helper()
		f, name := filling{r.town(), r.public(), "eve", 0, townChoices()}, told.name
		// What is told later is done first: there may be no place for it then.
		for _, o := range others {
			o.do(&f)
			name += ", " + o.name
		}
		told.do(&f)
		got, e := ballot.Fill(f.m, f.key, f.voter, f.precinct, f.choices, "seed")
		fails(t, name, noBallot(got), e, told.e)
	}
	all := fillFaults(r)
	for _, a := range all {
		check(a)
		for _, b := range all {
			if a.rank < b.rank {
				check(a, b)
			}
		}
	}
}

// TestC3Style: the choices are those of the precinct's own style.
func TestC3Style(t *testing.T) {
	r := ringOf(api.Tiny)
	m := r.town()
	for precinct, want := range []api.Errno{api.ErrForm, api.ErrForm, api.OK, api.ErrForm} {
		got, e := ballot.Fill(m, r.public(), "eve", precinct, [][]int{{1, 2, 3}, {1, 2}}, "seed")
		if fails(t, "Fill", noBallot(got) == (want != api.OK), e, want); precinct == 2 {
			tells(t, "Good", ballot.Good(m, r.public(), got), api.OK)
		}
	}
}

// TestE2Fill: what is handed in is only read, and what is answered is new.
func TestE2Fill(t *testing.T) {
	r := ringOf(api.Short)
	m, choices := r.town(), townChoices()
	for i := range choices {
		choices[i] = roomy(choices[i])
	}
	a, e := ballot.Fill(m, r.public(), "eve", 0, choices, "seed")
	want := clone(a)
	for i := range choices {
		if full := choices[i][:cap(choices[i])]; slices.ContainsFunc(full[len(choices[i]):], func(x int) bool { return x != 0 }) {
			t.Error("the spare room was changed")
		}
		same(t, "choice", choices[i], e, townChoices()[i])
	}
	b, _ := ballot.Fill(m, r.public(), "eve", 0, choices, "seed")
	for i := range b.Parts {
		p := &b.Parts[i]
		for k := range p.Proofs {
			p.Proofs[k].Challenges = append(p.Proofs[k].Challenges[:0], "x", "y")
			p.Proofs[k].Answers[0] = append(p.Proofs[k].Answers[0][:0], "x", "y")
		}
		p.Ciphers = append(p.Ciphers[:0], api.Cipher{}, api.Cipher{})
	}
	same(t, "the first ballot", a, e, want)
	again, e := ballot.Fill(m, r.public(), "eve", 0, choices, "seed")
	same(t, "once more", again, e, want)
	same(t, "manifest", m, e, r.town())
}
