package ballot_test

import (
	"slices"
	"testing"

	"hustings/api"
	"hustings/ballot"
)

func TestC5Open(t *testing.T) {
	kinds(t, func(t *testing.T, r ring) {
		d := dice()
		for range 10 {
			m := r.anyTown(d)
			precinct := d.IntN(len(m.Precincts))
			choices := anyChoices(d, m, precinct)
			b, _ := ballot.Fill(m, r.public(), "eve", precinct, choices, "seed")
			got, e := ballot.Open(m, r.secret(), b)
			same(t, "Open", got, e, choices)
		}
	})
}

// TestC5Anything: ballots are opened whoever they are by, and whatever their proofs say.
func TestC5Anything(t *testing.T) {
	kinds(t, func(t *testing.T, r ring) {
		s := r.sealed()
		s.b.Voter = "no word"
		for i := range s.b.Parts {
			for k := range s.b.Parts[i].Proofs {
				s.b.Parts[i].Proofs[k] = api.Either{}
			}
		}
		s.b.Parts[0].Sum = api.Either{}
		got, e := ballot.Open(s.m, s.secret, s.b)
		same(t, "Open", got, e, townChoices())
		s.b.Precinct = 3
		got, e = ballot.Open(s.m, s.secret, s.b)
		same(t, "at another precinct", got, e, townChoices())
	})
}

// TestC5Numbers: all from 0 to the top are found, none above, whether they fit or not.
func TestC5Numbers(t *testing.T) {
	kinds(t, func(t *testing.T, r ring) {
		m := r.town()
		tops := []int{1, 3, 1, 2}
		for i, top := range tops {
			for x := range 8 {
				choices := townChoices()
				for k := range choices[i] {
					choices[i][k] = min(x, top)
				}
				choices[i][len(choices[i])-1] = x
				b := r.fillModel(m, r.public(), "eve", 0, choices, "seed")
				for k := range b.Parts[i].Proofs {
					b.Parts[i].Proofs[k] = api.Either{}
				}
				b.Parts[0].Sum = api.Either{}
				got, e := ballot.Open(m, r.secret(), b)
				if x <= top {
					same(t, "Open", got, e, choices)
				} else {
					fails(t, "above the top", got == nil, e, api.ErrNone)
				}
			}
		}
		b := r.sealed().b
		b.Parts[2].Ciphers[1].B = r.over(b.Parts[2].Ciphers[1].B, r.small(4)) // it hid 1
		got, e := ballot.Open(m, r.secret(), b)
		fails(t, "below 0", got == nil, e, api.ErrNone)
	})
}

func TestC5OtherSecret(t *testing.T) {
	r := ringOf(api.Short)
	s := r.sealed()
	got, e := ballot.Open(s.m, r.small(5), s.b)
	fails(t, "another secret", got == nil, e, api.ErrNone)
}

// TestC5Wrong: each fault by itself, and many of two together.
func TestC5Wrong(t *testing.T) {
	r := ringOf(api.Short)
	first := r.sealed()
	all := slices.DeleteFunc(slices.Concat(outerFaults(r), formFaults(), elemFaults(r)), func(f goodFault) bool {
		return f.rank == wrongKey || f.rank == wrongVoter // it is not asked for these
	})
	for _, none := range r.noScalars() {
		all = append(all, goodFault{"secret", wrongKey, api.ErrScalar, func(s *sealed) { s.secret = none }})
	}
	// Where all else is right, nothing is found.
	hides := goodFault{"it hides something else", wrongProof, api.ErrNone, func(s *sealed) {
		if len(s.b.Parts) > 0 && len(s.b.Parts[0].Ciphers) > 0 {
			s.b.Parts[0].Ciphers[0].A = r.small(7)
		}
	}}
	check := func(faults ...goodFault) {
		t.Helper()
		s := sealed{r.town(), first.key, first.secret, clone(first.b)}
		told, name := faults[0], ""
		for _, f := range faults {
			f.do(&s)
			name += f.name + ", "
			if f.rank < told.rank {
				told = f
			}
		}
		got, e := ballot.Open(s.m, s.secret, s.b)
		fails(t, name, got == nil, e, told.e)
	}
	check(hides)
	for _, a := range all {
		check(a)
		check(hides, a)
		for _, b := range all {
			if a.rank < b.rank {
				check(b, a)
			}
		}
	}
}

// TestE2Open: no two lists of an answer share memory.
func TestE2Open(t *testing.T) {
	r := ringOf(api.Tiny)
	s := r.sealed()
	got, _ := ballot.Open(s.m, s.secret, s.b)
	for i := range got {
		got[i] = append(got[i], 99)
	}
	for i, l := range townChoices() {
		same(t, "a list", got[i], api.OK, append(l, 99))
	}
}
