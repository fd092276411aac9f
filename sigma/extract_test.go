package sigma_test

import (
	"slices"
	"testing"

	"hustings/api"
	"hustings/sigma"
)

// answered is the proof of who has said the same first, with another challenge.
func answered(r ring, nonces, secrets []string, challenge string) api.Proof {
	p := api.Proof{Challenge: challenge}
	for i, x := range secrets {
		p.Answers = append(p.Answers, r.add(nonces[i], r.mul(challenge, x)))
	}
	return p
}

// TestQ5Extract: who has answered two challenges behind the same firsts has told the secrets.
func TestQ5Extract(t *testing.T) {
	kinds(t, func(t *testing.T, r ring) {
		d := dice()
		zero, last := r.small(0), r.sub(r.small(0), r.small(1))
		for _, n := range []int{1, 2, 64, 65, 300} {
			nonces, secrets := r.anyOf(d, n), r.anyOf(d, n)
			secrets[0] = zero
			for _, c := range [][2]string{{r.small(1), r.small(2)}, {zero, last}, {last, zero}, {zero, r.small(1)}, {r.any(d), r.any(d)}} {
				got, e := sigma.Extract(r.kind, answered(r, nonces, secrets, c[0]), answered(r, nonces, secrets, c[1]))
				same(t, "Extract", got, e, secrets)
			}
		}
		for range 100 {
			a := api.Proof{Challenge: r.any(d), Answers: r.anyOf(d, 2)}
			b := api.Proof{Challenge: r.any(d), Answers: r.anyOf(d, 2)}
			if a.Challenge == b.Challenge {
				continue
			}
			var want []string
			for i := range a.Answers {
				want = append(want, r.div(r.sub(a.Answers[i], b.Answers[i]), r.sub(a.Challenge, b.Challenge)))
			}
			got, e := sigma.Extract(r.kind, a, b)
			same(t, "Extract", got, e, want)
		}
	})
}

func TestQ5ExtractWrong(t *testing.T) {
	kinds(t, func(t *testing.T, r ring) {
		one, two := r.small(1), r.small(2)
		check := func(what string, kind int, a, b api.Proof, want api.Errno) {
			t.Helper()
			got, e := sigma.Extract(kind, a, b)
			fails(t, what, got == nil, e, want)
			got, e = sigma.Extract(kind, b, a)
			fails(t, what+", the other way round", got == nil, e, want)
		}
		a := api.Proof{Challenge: one, Answers: []string{one, two}}
		b := api.Proof{Challenge: two, Answers: []string{two, two}}
		for _, kind := range noKinds() {
			check("no kind", kind, a, b, api.ErrKind)
			check("no kind, nothing", kind, api.Proof{}, api.Proof{}, api.ErrKind)
		}
		check("nothing", r.kind, api.Proof{}, api.Proof{}, api.ErrForm)
		check("no answers", r.kind, api.Proof{Challenge: one}, api.Proof{Challenge: two, Answers: []string{}}, api.ErrForm)
		check("no answers of one", r.kind, a, api.Proof{Challenge: two}, api.ErrForm)
		check("an answer less", r.kind, a, api.Proof{Challenge: two, Answers: []string{one}}, api.ErrForm)
		check("an answer less, the same challenge, no scalar", r.kind, a, api.Proof{Challenge: one, Answers: []string{"none"}}, api.ErrForm)
		check("the same", r.kind, a, a, api.ErrNone)
		check("the same challenge", r.kind, a, api.Proof{Challenge: one, Answers: b.Answers}, api.ErrNone)
		for _, none := range r.noScalars() {
			check("no challenge", r.kind, a, api.Proof{Challenge: none, Answers: b.Answers}, api.ErrScalar)
			check("no challenges", r.kind, api.Proof{Challenge: none, Answers: a.Answers}, api.Proof{Challenge: none, Answers: a.Answers}, api.ErrScalar)
			check("no answer", r.kind, a, api.Proof{Challenge: two, Answers: []string{none, one}}, api.ErrScalar)
			check("no answer, the same challenge", r.kind, a, api.Proof{Challenge: one, Answers: []string{one, none}}, api.ErrScalar)
		}
	})
}

func TestQ5ExtractAny(t *testing.T) {
	kinds(t, func(t *testing.T, r ring) {
		d := dice()
		for at := range 4 {
			a := api.Either{Challenges: r.anyOf(d, 4), Answers: [][]string{r.anyOf(d, 2), r.anyOf(d, 1), r.anyOf(d, 70), r.anyOf(d, 3)}}
			b := cloneEither(a)
			for i := at; i < 4; i++ {
				b.Challenges[i] = r.add(b.Challenges[i], r.small(int64(i+1)))
			}
			for i := range b.Answers {
				for k := range b.Answers[i] {
					b.Answers[i][k] = r.any(d)
				}
			}
			want, _ := sigma.Extract(r.kind, api.Proof{Challenge: a.Challenges[at], Answers: a.Answers[at]}, api.Proof{Challenge: b.Challenges[at], Answers: b.Answers[at]})
			i, got, e := sigma.ExtractAny(r.kind, a, b)
			same(t, "ExtractAny", got, e, want)
			same(t, "the place", i, e, at)
		}
		most := api.Either{Challenges: r.anyOf(d, 100), Answers: slices.Repeat([][]string{{r.small(3)}}, 100)}
		other := cloneEither(most)
		other.Challenges[99] = r.add(other.Challenges[99], r.small(1))
		i, got, e := sigma.ExtractAny(r.kind, most, other)
		same(t, "of 100", got, e, []string{r.small(0)})
		same(t, "the place of 100", i, e, 99)
	})
}

// TestQ5Twice: out of two proofs of one of several sets, whose firsts are the same, come the secrets.
func TestQ5Twice(t *testing.T) {
	r := rings()[2]
	sets, secrets := someSets(r)
	a, _ := sigma.ProveAny(r.kind, "label", sets, 1, secrets, "seed")
	b := cloneEither(a)
	b.Challenges[1] = r.add(b.Challenges[1], r.small(5))
	for k, x := range secrets {
		b.Answers[1][k] = r.add(b.Answers[1][k], r.mul(r.small(5), x))
	}
	i, got, e := sigma.ExtractAny(r.kind, a, b)
	same(t, "the secrets", got, e, secrets)
	same(t, "the place", i, e, 1)
}

func TestQ5ExtractAnyWrong(t *testing.T) {
	kinds(t, func(t *testing.T, r ring) {
		one, two := r.small(1), r.small(2)
		a := api.Either{Challenges: []string{one, two}, Answers: [][]string{{one}, {two, one}}}
		b := api.Either{Challenges: []string{one, one}, Answers: [][]string{{two}, {two, two}}}
		check := func(what string, kind int, a, b api.Either, want api.Errno) {
			t.Helper()
			i, got, e := sigma.ExtractAny(kind, a, b)
			fails(t, what, got == nil && i == 0, e, want)
			i, got, e = sigma.ExtractAny(kind, b, a)
			fails(t, what+", the other way round", got == nil && i == 0, e, want)
		}
		changed := func(what string, want api.Errno, change func(a, b *api.Either)) {
			t.Helper()
			x, y := cloneEither(a), cloneEither(b)
			change(&x, &y)
			check(what, r.kind, x, y, want)
		}
		for _, kind := range noKinds() {
			check("no kind", kind, a, b, api.ErrKind)
			check("no kind, nothing", kind, api.Either{}, api.Either{}, api.ErrKind)
		}
		check("nothing", r.kind, api.Either{}, api.Either{}, api.ErrForm)
		check("nothing of one", r.kind, a, api.Either{}, api.ErrForm)
		changed("no challenges", api.ErrForm, func(a, b *api.Either) { a.Challenges, b.Challenges = nil, nil })
		changed("no challenges, no lists of one", api.ErrForm, func(a, b *api.Either) { a.Challenges, b.Challenges, b.Answers = nil, nil, nil })
		changed("a challenge less", api.ErrForm, func(a, b *api.Either) { b.Challenges = b.Challenges[:1] })
		changed("a challenge less of both", api.ErrForm, func(a, b *api.Either) { a.Challenges, b.Challenges = a.Challenges[:1], b.Challenges[:1] })
		changed("a challenge and a list less", api.ErrForm, func(a, b *api.Either) { b.Challenges, b.Answers = b.Challenges[:1], b.Answers[:1] })
		changed("a list less", api.ErrForm, func(a, b *api.Either) { b.Answers = b.Answers[:1] })
		changed("a list less of both", api.ErrForm, func(a, b *api.Either) { a.Answers, b.Answers = a.Answers[:1], b.Answers[:1] })
		changed("a list more of both", api.ErrForm, func(a, b *api.Either) {
			a.Answers, b.Answers = append(a.Answers, []string{one}), append(b.Answers, []string{one})
		})
		changed("an answer less", api.ErrForm, func(a, b *api.Either) { b.Answers[1] = b.Answers[1][:1] })
		changed("no answers of one list", api.ErrForm, func(a, b *api.Either) { a.Answers[0], b.Answers[0] = nil, []string{} })
		changed("an answer less, where the challenges are the same", api.ErrForm, func(a, b *api.Either) { b.Answers[0] = append(b.Answers[0], "none") })
		changed("the same challenges", api.ErrNone, func(a, b *api.Either) { b.Challenges[1] = two })
		check("the same", r.kind, a, a, api.ErrNone)
		for _, none := range r.noScalars() {
			for i := range 2 {
				changed("no challenge", api.ErrScalar, func(a, b *api.Either) { b.Challenges[i] = none })
				changed("no challenges", api.ErrScalar, func(a, b *api.Either) { a.Challenges[i], b.Challenges[i] = none, none })
				changed("no answer", api.ErrScalar, func(a, b *api.Either) { b.Answers[i][i] = none })
				changed("no answer, the same challenges", api.ErrScalar, func(a, b *api.Either) { b.Challenges[1], b.Answers[i][i] = two, none })
			}
		}
	})
}

// TestE2Extract: what is handed in is only read.
func TestE2Extract(t *testing.T) {
	r, d := rings()[1], dice()
	a := api.Proof{Challenge: r.any(d), Answers: append(r.anyOf(d, 2), "spare")[:2]}
	b := api.Proof{Challenge: r.any(d), Answers: append(r.anyOf(d, 2), "spare")[:2]}
	keptA, keptB := slices.Clone(a.Answers[:3]), slices.Clone(b.Answers[:3])
	got, _ := sigma.Extract(r.kind, a, b)
	want := slices.Clone(got)
	_ = append(got, "behind")
	got[0], got[1] = "x", "y"
	again, e := sigma.Extract(r.kind, a, b)
	same(t, "Extract again", again, e, want)
	same(t, "the first answers", a.Answers[:3], api.OK, keptA)
	same(t, "the second answers", b.Answers[:3], api.OK, keptB)
}
