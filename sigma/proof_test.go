package sigma_test

import (
	"slices"
	"strings"
	"testing"

	"hustings/api"
	"hustings/sigma"
)

func TestQ2Prove(t *testing.T) {
	kinds(t, func(t *testing.T, r ring) {
		d := dice()
		for _, bases := range [][]int{{1}, {2}, {8}, {1, 1}, {2, 1, 3}, slices.Repeat([]int{1}, 64), {8, 8, 8, 8}} {
			secrets := r.anyOf(d, len(bases))
			claims := r.claims(d, secrets, bases...)
			for _, label := range []string{"", "label", "\x00\xff", strings.Repeat("long", 1000)} {
				for _, seed := range []string{"", "seed", strings.Repeat("\xff", 300)} {
					p, e := sigma.Prove(r.kind, label, claims, secrets, seed)
					same(t, "Prove", p, e, modelProve(r, label, claims, secrets, seed))
					if !sigma.Verify(r.kind, label, claims, p) {
						t.Errorf("the proof of %v is not right", bases)
					}
				}
			}
		}
	})
}

// TestQ2Most: as many claims, with as many bases, as there may be.
func TestQ2Most(t *testing.T) {
	kinds(t, func(t *testing.T, r ring) {
		d := dice()
		secrets := r.anyOf(d, 64)
		claims := r.claims(d, secrets, slices.Repeat([]int{8}, 64)...)
		p, e := sigma.Prove(r.kind, "label", claims, secrets, "seed")
		same(t, "Prove", p, e, modelProve(r, "label", claims, secrets, "seed"))
		if !sigma.Verify(r.kind, "label", claims, p) {
			t.Error("the proof is not right")
		}
	})
}

// TestQ2Zero: secrets may be 0, and bases 1.
func TestQ2Zero(t *testing.T) {
	kinds(t, func(t *testing.T, r ring) {
		claims := []api.Claim{
			{Bases: []string{r.small(2), r.text(r.order)}, Images: []string{r.small(1), r.small(1)}},
			{Bases: []string{r.small(1)}, Images: []string{r.small(1)}},
		}
		secrets := []string{r.small(0), r.small(7)}
		p, e := sigma.Prove(r.kind, "label", claims, secrets, "seed")
		same(t, "Prove", p, e, modelProve(r, "label", claims, secrets, "seed"))
		if !sigma.Verify(r.kind, "label", claims, p) {
			t.Error("the proof is not right")
		}
	})
}

func TestQ2Unproven(t *testing.T) {
	kinds(t, func(t *testing.T, r ring) {
		d := dice()
		secrets := r.anyOf(d, 2)
		claims := r.claims(d, secrets, 2, 1)
		for i := range secrets {
			others := slices.Clone(secrets)
			others[i] = r.add(others[i], r.small(1))
			p, e := sigma.Prove(r.kind, "label", claims, others, "seed")
			fails(t, "Prove with another secret", noProof(p), e, api.ErrProof)
		}
		for k := range 2 {
			other := cloneClaims(claims)
			other[0].Images[k] = r.product(other[0].Images[k], r.small(1), r.small(2), r.small(1))
			p, e := sigma.Prove(r.kind, "label", other, secrets, "seed")
			fails(t, "Prove of another image", noProof(p), e, api.ErrProof)
		}
		// What is wrong with the form of secrets is told ahead of their not fitting.
		p, e := sigma.Prove(r.kind, "label", claims, []string{secrets[1], secrets[0], secrets[0]}, "seed")
		fails(t, "Prove with too many secrets", noProof(p), e, api.ErrForm)
		p, e = sigma.Prove(r.kind, "label", claims, []string{secrets[1], "none"}, "seed")
		fails(t, "Prove with no scalar", noProof(p), e, api.ErrScalar)
	})
}

// TestQ2Verify: of all proofs that have the right form, Verify finds those right that the document does.
func TestQ2Verify(t *testing.T) {
	r, d := rings()[0], dice()
	right := 0
	for range 6 {
		claims := r.claims(d, r.anyOf(d, 2), 2, 1)
		claims[0].Images[1] = r.any(d)
		answers := r.anyOf(d, 2)
		for c := range int64(641) {
			p := api.Proof{Challenge: r.small(c), Answers: answers}
			want := modelVerify(r, "label", claims, p)
			if want {
				right++
			}
			if sigma.Verify(r.kind, "label", claims, p) != want {
				t.Errorf("challenge %d: not %t", c, want)
			}
		}
	}
	if right == 0 {
		t.Error("no proof was right by chance: look for other numbers")
	}
}

func TestQ2VerifyWrong(t *testing.T) {
	for _, r := range rings()[1:] {
		d := dice()
		secrets := r.anyOf(d, 3)
		claims := r.claims(d, secrets, 2, 1, 8)
		p, _ := sigma.Prove(r.kind, "label", claims, secrets, "seed")
		wrong := func(what string, kind int, label string, claims []api.Claim, p api.Proof) {
			t.Helper()
			if sigma.Verify(kind, label, claims, p) {
				t.Errorf("kind %d, %s: it is found right", r.kind, what)
			}
		}
		wrong("another label", r.kind, "labels", claims, p)
		wrong("no label", r.kind, "", claims, p)
		for _, kind := range append(noKinds(), api.Tiny, api.Short+api.Full-r.kind) {
			wrong("another kind", kind, "label", claims, p)
		}
		wrong("a claim less", r.kind, "label", claims[:2], p)
		wrong("a claim less, an answer less", r.kind, "label", claims[:2], api.Proof{Challenge: p.Challenge, Answers: p.Answers[:2]})
		wrong("an answer less", r.kind, "label", claims, api.Proof{Challenge: p.Challenge, Answers: p.Answers[:2]})
		wrong("an answer more", r.kind, "label", claims, api.Proof{Challenge: p.Challenge, Answers: append(p.Answers[:3:3], r.small(0))})
		wrong("no answers", r.kind, "label", claims, api.Proof{Challenge: p.Challenge})
		wrong("nothing", r.kind, "label", claims, api.Proof{})
		wrong("nothing of nothing", r.kind, "label", nil, api.Proof{Challenge: p.Challenge})
		wrong("another challenge", r.kind, "label", claims, api.Proof{Challenge: r.add(p.Challenge, r.small(1)), Answers: p.Answers})
		for i := range p.Answers {
			answers := slices.Clone(p.Answers)
			answers[i] = r.add(answers[i], r.small(1))
			wrong("another answer", r.kind, "label", claims, api.Proof{Challenge: p.Challenge, Answers: answers})
			for _, none := range append(r.noScalars(), r.text(number(p.Answers[i]).Add(number(p.Answers[i]), r.order))) {
				answers[i] = none
				wrong("an answer that is no scalar", r.kind, "label", claims, api.Proof{Challenge: p.Challenge, Answers: answers})
			}
		}
		for _, none := range append(r.noScalars(), r.text(number(p.Challenge).Add(number(p.Challenge), r.order))) {
			wrong("a challenge that is no scalar", r.kind, "label", claims, api.Proof{Challenge: none, Answers: p.Answers})
		}
		for i, c := range claims {
			for k := range c.Bases {
				other := cloneClaims(claims)
				other[i].Bases[k] = r.any(d)
				wrong("another base", r.kind, "label", other, p)
				other = cloneClaims(claims)
				other[i].Images[k] = r.any(d)
				wrong("another image", r.kind, "label", other, p)
			}
		}
		slices.Reverse(claims)
		wrong("another order", r.kind, "label", claims, p)
	}
}

func TestQ2VerifyFlaws(t *testing.T) {
	kinds(t, func(t *testing.T, r ring) {
		for _, f := range flaws(r) {
			for c := range int64(10) {
				if sigma.Verify(r.kind, "label", f.claims, api.Proof{Challenge: r.small(c), Answers: slices.Repeat([]string{r.small(1)}, len(f.claims))}) {
					t.Errorf("%s: it is found right", f.name)
				}
			}
		}
	})
}

// TestE2Prove: what is handed in is only read, and proofs do not hang on one another.
func TestE2Prove(t *testing.T) {
	r, d := rings()[1], dice()
	secrets := append(r.anyOf(d, 2), "spare")[:2]
	claims := append(r.claims(d, secrets, 2, 1), api.Claim{})[:2]
	before, kept := cloneClaims(claims), slices.Clone(secrets)
	p, _ := sigma.Prove(r.kind, "label", claims, secrets, "seed")
	_ = append(p.Answers, "behind")
	p.Answers[0] = "x"
	q, e := sigma.Prove(r.kind, "label", claims, secrets, "seed")
	same(t, "Prove again", q, e, modelProve(r, "label", before, kept, "seed"))
	if !sigma.Verify(r.kind, "label", claims, q) {
		t.Error("the proof is not right")
	}
	same(t, "the claims", claims, api.OK, before)
	same(t, "what is behind them", claims[:3][2], api.OK, api.Claim{})
	same(t, "the secrets", secrets[:3], api.OK, append(kept, "spare"))
}
