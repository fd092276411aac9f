package ballot_test

import (
	"fmt"
	"slices"
	"strings"
	"testing"

	"hustings/api"
	"hustings/ballot"
	"hustings/sigma"
)

// sealed is what Good and Open are handed.
type sealed struct {
	m      api.Manifest
	key    string
	secret string
	b      api.Ballot
}

// The order in which it is told what is wrong.
const (
	wrongManifest = iota
	wrongKey
	wrongVoter
	wrongPrecinct
	wrongForm
	wrongElem
	wrongProof
)

// goodFault is something that is wrong with a ballot.
type goodFault struct {
	name string
	rank int
	e    api.Errno
	do   func(s *sealed)
}

// outerFaults are those of all but the parts.
func outerFaults(r ring) []goodFault {
	out := []goodFault{
		{"kind", wrongManifest, api.ErrKind, func(s *sealed) { s.m.Kind = 0 }},
		{"no trustees", wrongManifest, api.ErrForm, func(s *sealed) { s.m.Trustees = nil }},
		{"mixes", wrongManifest, api.ErrRange, func(s *sealed) { s.m.Mixes = 9 }},
		{"registrar", wrongManifest, api.ErrElem, func(s *sealed) { s.m.Registrar = r.small(0) }},
	}
	for _, none := range r.noElems() {
		out = append(out, goodFault{"key", wrongKey, api.ErrElem, func(s *sealed) { s.key = none }})
	}
	for _, none := range []string{"", "e ve", "\x80", strings.Repeat("e", 33)} {
		out = append(out, goodFault{"voter", wrongVoter, api.ErrForm, func(s *sealed) { s.b.Voter = none }})
	}
	for _, none := range []int{-1, 4, least, most, 1 << 32} {
		out = append(out, goodFault{"precinct", wrongPrecinct, api.ErrRange, func(s *sealed) { s.b.Precinct = none }})
	}
	return out
}

// formFaults are those of the parts, whatever stands in ciphers and proofs.
func formFaults() []goodFault {
	type do = func(b *api.Ballot)
	var out []goodFault
	add := func(name string, f do) {
		out = append(out, goodFault{name, wrongForm, api.ErrForm, func(s *sealed) { f(&s.b) }})
	}
	add("no parts", func(b *api.Ballot) { b.Parts = nil })
	add("one part less", func(b *api.Ballot) { b.Parts = b.Parts[:len(b.Parts)-1] })
	add("one part more", func(b *api.Ballot) { b.Parts = append(b.Parts, api.Part{}) })
	add("many parts", func(b *api.Ballot) { b.Parts = make([]api.Part, 1<<16) })
	add("another precinct", func(b *api.Ballot) { b.Precinct = 1 })
	for i := range 4 {
		in := func(f func(p *api.Part)) do {
			return func(b *api.Ballot) {
				if i < len(b.Parts) {
					f(&b.Parts[i])
				}
			}
		}
		add("no ciphers", in(func(p *api.Part) { p.Ciphers = nil }))
		add("one cipher less", in(func(p *api.Part) { p.Ciphers = p.Ciphers[1:] }))
		add("one cipher more", in(func(p *api.Part) { p.Ciphers = append(p.Ciphers, p.Ciphers[0]) }))
		add("no proofs", in(func(p *api.Part) { p.Proofs = nil }))
		add("one proof less", in(func(p *api.Part) { p.Proofs = p.Proofs[1:] }))
		add("one proof more", in(func(p *api.Part) { p.Proofs = append(p.Proofs, p.Proofs[0]) }))
		add("one less of both", in(func(p *api.Part) { p.Ciphers, p.Proofs = p.Ciphers[1:], p.Proofs[1:] }))
		add("nothing", in(func(p *api.Part) { *p = api.Part{} }))
		if i == 0 {
			continue // its Sum has some
		}
		add("challenges in Sum", in(func(p *api.Part) { p.Sum.Challenges = []string{""} }))
		add("answers in Sum", in(func(p *api.Part) { p.Sum.Answers = [][]string{{""}} }))
		add("an empty list of answers in Sum", in(func(p *api.Part) { p.Sum.Answers = [][]string{nil} }))
		add("a Sum", in(func(p *api.Part) { p.Sum = p.Proofs[0] }))
	}
	return out
}

// elemFaults are those of ciphers.
func elemFaults(r ring) []goodFault {
	var out []goodFault
	for i := range 4 {
		for k := range 2 {
			for n, none := range r.noElems() {
				set := func(f func(c *api.Cipher)) func(s *sealed) {
					return func(s *sealed) {
						if i < len(s.b.Parts) && k < len(s.b.Parts[i].Ciphers) {
							f(&s.b.Parts[i].Ciphers[k])
						}
					}
				}
				out = append(out, goodFault{fmt.Sprint("A", n), wrongElem, api.ErrElem, set(func(c *api.Cipher) { c.A = none })},
					goodFault{fmt.Sprint("B", n), wrongElem, api.ErrElem, set(func(c *api.Cipher) { c.B = none })})
			}
		}
	}
	return out
}

// proofFaults are those of proofs; what they stand beside has the right form.
func proofFaults(r ring) []goodFault {
	var out []goodFault
	add := func(name string, f func(s *sealed)) {
		out = append(out, goodFault{name, wrongProof, api.ErrProof, f})
	}
	add("another voter", func(s *sealed) { s.b.Voter = "bob" })
	add("another precinct with the same style", func(s *sealed) { s.b.Precinct = 3 })
	add("another manifest", func(s *sealed) { s.m.Lots = "other" })
	add("another key", func(s *sealed) { s.key = r.small(3) })
	add("marks for more", func(s *sealed) { s.m.Contests[0].Most = 3 })
	for i := range 4 {
		in := func(f func(p *api.Part)) func(s *sealed) {
			return func(s *sealed) {
				if i < len(s.b.Parts) {
					f(&s.b.Parts[i])
				}
			}
		}
		last := []int{2, 2, 3, 1}[i]
		for _, k := range []int{0, last} {
			add("no proof", in(func(p *api.Part) { p.Proofs[k] = api.Either{} }))
			add("another cipher", in(func(p *api.Part) { p.Ciphers[k].B = r.times(p.Ciphers[k].B, r.small(2)) }))
			add("another nonce", in(func(p *api.Part) { p.Ciphers[k].A = r.times(p.Ciphers[k].A, r.small(2)) }))
			add("another challenge", in(func(p *api.Part) { p.Proofs[k].Challenges[0] = r.add(p.Proofs[k].Challenges[0], r.small(1)) }))
			add("another answer", in(func(p *api.Part) { p.Proofs[k].Answers[1][0] = r.add(p.Proofs[k].Answers[1][0], r.small(1)) }))
			add("one set less", in(func(p *api.Part) {
				p.Proofs[k].Challenges, p.Proofs[k].Answers = p.Proofs[k].Challenges[1:], p.Proofs[k].Answers[1:]
			}))
			add("no scalar", in(func(p *api.Part) { p.Proofs[k].Challenges[0] = "" }))
		}
		add("two proofs changed", in(func(p *api.Part) { p.Proofs[0], p.Proofs[1] = p.Proofs[1], p.Proofs[0] }))
		add("two options changed", in(func(p *api.Part) {
			p.Proofs[0], p.Proofs[1] = p.Proofs[1], p.Proofs[0]
			p.Ciphers[0], p.Ciphers[1] = p.Ciphers[1], p.Ciphers[0]
		}))
	}
	add("no sum", func(s *sealed) { s.b.Parts[0].Sum = api.Either{} })
	add("another sum", func(s *sealed) { s.b.Parts[0].Sum = s.b.Parts[0].Proofs[0] })
	add("another answer in the sum", func(s *sealed) {
		s.b.Parts[0].Sum.Answers[2][0] = r.add(s.b.Parts[0].Sum.Answers[2][0], r.small(1))
	})
	return out
}

func (r ring) sealed() sealed {
	m := r.town()
	b, _ := ballot.Fill(m, r.public(), "eve", 0, townChoices(), "seed")
	return sealed{m, r.public(), r.secret(), b}
}

func TestC4Good(t *testing.T) {
	kinds(t, func(t *testing.T, r ring) {
		s := r.sealed()
		tells(t, "Good", ballot.Good(s.m, s.key, s.b), api.OK)
		for i := 1; i < 4; i++ {
			s.b.Parts[i].Sum = api.Either{Challenges: []string{}, Answers: [][]string{}}
		}
		tells(t, "empty lists in Sum", ballot.Good(s.m, s.key, s.b), api.OK)
	})
}

// TestC4Wrong: each fault by itself, and many of two together: the first one is told.
func TestC4Wrong(t *testing.T) {
	r := ringOf(api.Short)
	all := slices.Concat(outerFaults(r), formFaults(), elemFaults(r), proofFaults(r))
	first := r.sealed()
	check := func(faults ...goodFault) {
		t.Helper()
		// m is changed in its contests: so it is made anew.
		s := sealed{r.town(), first.key, first.secret, clone(first.b)}
		told, name := faults[0], ""
		for _, f := range faults {
			f.do(&s)
			name += f.name + ", "
			if f.rank < told.rank {
				told = f
			}
		}
		tells(t, name, ballot.Good(s.m, s.key, s.b), told.e)
	}
	for _, f := range all {
		check(f)
	}
	d := dice()
	for range 4000 {
		a, b := all[d.IntN(len(all))], all[d.IntN(len(all))]
		if a.rank == b.rank {
			continue // one may undo what the other does
		}
		if a.rank > b.rank {
			a, b = b, a
		}
		// What lies deeper is done first: where it is not there any more, it cannot be done.
		check(b, a)
	}
}

// TestC4WrongPlace: what stands behind does not count for what stands ahead: form ahead of elements ahead of proofs, in
// whatever contests.
func TestC4WrongPlace(t *testing.T) {
	r := ringOf(api.Tiny)
	s := r.sealed()
	s.b.Parts[0].Proofs[0] = api.Either{}
	s.b.Parts[3].Ciphers[1].B = ""
	tells(t, "no element in the last contest", ballot.Good(s.m, s.key, s.b), api.ErrElem)
	s.b.Parts[0].Ciphers[0].A = ""
	s.b.Parts[3].Sum.Answers = [][]string{{}}
	tells(t, "a sum in the last contest", ballot.Good(s.m, s.key, s.b), api.ErrForm)
}

// TestC4Lies: ballots that are marked as they may not be, with all proofs that can be made of them.
func TestC4Lies(t *testing.T) {
	r := ringOf(api.Short)
	m, key := r.town(), r.public()
	lie := func(what string, i int, choice ...int) {
		t.Helper()
		choices := townChoices()
		choices[i] = choice
		b := r.fillModel(m, key, "eve", 0, choices, "seed")
		good := r.fillModel(m, key, "eve", 0, townChoices(), "seed")
		// Where nothing can be proven, the proof of another ballot is tried.
		for k, p := range b.Parts[i].Proofs {
			if len(p.Challenges) == 0 {
				b.Parts[i].Proofs[k] = good.Parts[i].Proofs[k]
			}
		}
		if len(b.Parts[i].Sum.Challenges) == 0 {
			b.Parts[i].Sum = good.Parts[i].Sum
		}
		tells(t, what, ballot.Good(m, key, b), api.ErrProof)
	}
	lie("three marks of two", 0, 1, 1, 1)
	lie("two for one", 0, 2, 0, 0)
	lie("two approvals for one", 2, 0, 0, 2, 0)
	lie("a rank that is not there", 1, 4, 0, 0)
	lie("a rank that is not there", 3, 0, 3)
	// Two with the same rank: nobody sees it.
	choices := townChoices()
	choices[1] = []int{1, 1, 3}
	tells(t, "the same rank", ballot.Good(m, key, r.fillModel(m, key, "eve", 0, choices, "seed")), api.OK)
}

// TestC4Sum: the sum is proven of all numbers from 0 to Most, and under the label of an option behind the last one.
func TestC4Sum(t *testing.T) {
	r := ringOf(api.Short)
	m, key := r.town(), r.public()
	for _, choice := range [][]int{{0, 0, 0}, {0, 1, 0}, {1, 1, 0}} {
		choices := townChoices()
		choices[0] = choice
		b, _ := ballot.Fill(m, key, "eve", 0, choices, "seed")
		tells(t, "Good", ballot.Good(m, key, b), api.OK)
		part := b.Parts[0]
		nonce := r.add(r.add(r.nonceModel("seed", 0, 0), r.nonceModel("seed", 0, 1)), r.nonceModel("seed", 0, 2))
		marks := choice[0] + choice[1] + choice[2]
		for j := range 6 {
			sets := r.setsModel(key, r.sumModel(part.Ciphers), 2)
			b.Parts[0].Sum, _ = sigma.ProveAny(r.kind, labelModel(m, "eve", 0, 0, j), sets, marks, []string{nonce}, "another seed")
			want := api.ErrProof
			if j == 3 {
				want = api.OK
			}
			tells(t, fmt.Sprint("label ", j), ballot.Good(m, key, b), want)
		}
	}
}

// TestE2Good: what is handed in is only read.
func TestE2Good(t *testing.T) {
	r := ringOf(api.Short)
	s := r.sealed()
	b := clone(s.b)
	ballot.Good(s.m, s.key, b)
	ballot.Open(s.m, s.secret, b)
	same(t, "the ballot", b, api.OK, s.b)
	same(t, "the manifest", s.m, api.OK, r.town())
	for _, p := range b.Parts {
		for _, c := range p.Ciphers[:cap(p.Ciphers)][len(p.Ciphers):] {
			if c != (api.Cipher{}) {
				t.Error("the spare room was changed")
			}
		}
	}
}
