package sigma_test

import (
	"slices"
	"strings"
	"testing"

	"hustings/api"
	"hustings/fold"
	"hustings/sigma"
)

func TestQ6Public(t *testing.T) {
	kinds(t, func(t *testing.T, r ring) {
		d := dice()
		for _, x := range append(r.anyOf(d, 50), r.small(0), r.small(1), r.sub(r.small(0), r.small(1))) {
			got, e := sigma.Public(r.kind, x)
			same(t, "Public", got, e, r.power(r.small(2), x))
		}
		for _, none := range r.noScalars() {
			got, e := sigma.Public(r.kind, none)
			fails(t, "Public", got == "", e, api.ErrScalar)
		}
		for _, kind := range noKinds() {
			for _, x := range []string{r.small(1), "none"} {
				got, e := sigma.Public(kind, x)
				fails(t, "Public", got == "", e, api.ErrKind)
			}
		}
	})
}

func TestQ6Sign(t *testing.T) {
	kinds(t, func(t *testing.T, r ring) {
		d := dice()
		for _, x := range append(r.anyOf(d, 3), r.small(0), r.sub(r.small(0), r.small(1))) {
			public := r.power(r.small(2), x)
			claims := []api.Claim{{Bases: []string{r.small(2)}, Images: []string{public}}}
			for _, text := range []string{"", "text", strings.Repeat("\x00\xff", 5000)} {
				for _, seed := range []string{"", "seed"} {
					p, e := sigma.Sign(r.kind, x, text, seed)
					same(t, "Sign", p, e, modelProve(r, fold.Tag("sign", []string{text}), claims, []string{x}, seed))
					if !sigma.Signed(r.kind, public, text, p) {
						t.Error("a signature is not right")
					}
				}
			}
		}
		for _, none := range r.noScalars() {
			p, e := sigma.Sign(r.kind, none, "text", "seed")
			fails(t, "Sign", noProof(p), e, api.ErrScalar)
		}
		for _, kind := range noKinds() {
			for _, x := range []string{r.small(1), "none"} {
				p, e := sigma.Sign(kind, x, "text", "seed")
				fails(t, "Sign", noProof(p), e, api.ErrKind)
			}
		}
	})
}

func TestQ6Signed(t *testing.T) {
	for _, r := range rings()[1:] {
		x := r.any(dice())
		public := r.power(r.small(2), x)
		p, _ := sigma.Sign(r.kind, x, "text", "seed")
		wrong := func(what string, kind int, public, text string, p api.Proof) {
			t.Helper()
			if sigma.Signed(kind, public, text, p) {
				t.Errorf("kind %d, %s: it is found right", r.kind, what)
			}
		}
		wrong("another text", r.kind, public, "texts", p)
		wrong("no text", r.kind, public, "", p)
		wrong("another key", r.kind, r.power(r.small(2), r.add(x, r.small(1))), "text", p)
		for _, none := range r.noElems() {
			wrong("no key", r.kind, none, "text", p)
		}
		for _, kind := range append(noKinds(), api.Tiny, api.Short+api.Full-r.kind) {
			wrong("another kind", kind, public, "text", p)
		}
		wrong("nothing", r.kind, public, "text", api.Proof{})
		wrong("another challenge", r.kind, public, "text", api.Proof{Challenge: r.add(p.Challenge, r.small(1)), Answers: p.Answers})
		wrong("another answer", r.kind, public, "text", api.Proof{Challenge: p.Challenge, Answers: []string{r.add(p.Answers[0], r.small(1))}})
		wrong("an answer more", r.kind, public, "text", api.Proof{Challenge: p.Challenge, Answers: slices.Repeat(p.Answers, 2)})
		wrong("no answer", r.kind, public, "text", api.Proof{Challenge: p.Challenge})
		for _, none := range r.noScalars() {
			wrong("no scalars", r.kind, public, "text", api.Proof{Challenge: none, Answers: p.Answers})
			wrong("no scalars", r.kind, public, "text", api.Proof{Challenge: p.Challenge, Answers: []string{none}})
		}
	}
}
