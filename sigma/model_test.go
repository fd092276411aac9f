package sigma_test

import (
	"strings"

	"hustings/api"
	"hustings/fold"
)

// What the document says of proofs, in the order of its words, with numbers of math/big.

// modelTalk is the talk of claims.
func modelTalk(r ring, label string, claims []api.Claim) *fold.Talk {
	t := fold.NewTalk("claims")
	t.Say("label", label)
	t.Say("kind", string(rune(r.kind)))
	modelClaims(t, claims)
	return t
}

// modelEither is the talk of sets.
func modelEither(r ring, label string, sets [][]api.Claim) *fold.Talk {
	t := fold.NewTalk("either")
	t.Say("label", label)
	t.Say("kind", string(rune(r.kind)))
	for _, s := range sets {
		t.Say("set", string(rune(len(s))))
		modelClaims(t, s)
	}
	return t
}

func modelClaims(t *fold.Talk, claims []api.Claim) {
	for _, c := range claims {
		t.Say("bases", strings.Join(c.Bases, ""))
		t.Say("images", strings.Join(c.Images, ""))
	}
}

// modelBack is what comes back of a claim, modelFirst its first.
func modelBack(r ring, c api.Claim, challenge, answer string) []string {
	var out []string
	for i, b := range c.Bases {
		out = append(out, r.product(b, answer, c.Images[i], r.sub(r.small(0), challenge)))
	}
	return out
}

func modelFirst(r ring, c api.Claim, nonce string) []string {
	var out []string
	for _, b := range c.Bases {
		out = append(out, r.power(b, nonce))
	}
	return out
}

func modelProve(r ring, label string, claims []api.Claim, secrets []string, seed string) api.Proof {
	t := modelTalk(r, label, claims)
	from := t.Fork()
	from.Say("seed", seed)
	var p api.Proof
	for range claims {
		p.Answers = append(p.Answers, r.challenge(from, "nonce"))
	}
	for i, c := range claims {
		t.Say("first", strings.Join(modelFirst(r, c, p.Answers[i]), ""))
	}
	p.Challenge = r.challenge(t, "challenge")
	for i, x := range secrets {
		p.Answers[i] = r.add(p.Answers[i], r.mul(p.Challenge, x))
	}
	return p
}

func modelVerify(r ring, label string, claims []api.Claim, p api.Proof) bool {
	t := modelTalk(r, label, claims)
	for i, c := range claims {
		t.Say("first", strings.Join(modelBack(r, c, p.Challenge, p.Answers[i]), ""))
	}
	return r.challenge(t, "challenge") == p.Challenge
}

func modelProveAny(r ring, label string, sets [][]api.Claim, which int, secrets []string, seed string) api.Either {
	t := modelEither(r, label, sets)
	from := t.Fork()
	from.Say("seed", seed)
	p := api.Either{Challenges: make([]string, len(sets)), Answers: make([][]string, len(sets))}
	for i, s := range sets {
		if i != which {
			p.Challenges[i] = r.challenge(from, "other")
		}
		for range s {
			p.Answers[i] = append(p.Answers[i], r.challenge(from, "nonce"))
		}
	}
	for i, s := range sets {
		for k, c := range s {
			if i == which {
				t.Say("first", strings.Join(modelFirst(r, c, p.Answers[i][k]), ""))
			} else {
				t.Say("first", strings.Join(modelBack(r, c, p.Challenges[i], p.Answers[i][k]), ""))
			}
		}
	}
	c := r.challenge(t, "challenge")
	for i := range sets {
		if i != which {
			c = r.sub(c, p.Challenges[i])
		}
	}
	p.Challenges[which] = c
	for k, x := range secrets {
		p.Answers[which][k] = r.add(p.Answers[which][k], r.mul(c, x))
	}
	return p
}

func modelVerifyAny(r ring, label string, sets [][]api.Claim, p api.Either) bool {
	t := modelEither(r, label, sets)
	sum := r.small(0)
	for i, s := range sets {
		sum = r.add(sum, p.Challenges[i])
		for k, c := range s {
			t.Say("first", strings.Join(modelBack(r, c, p.Challenges[i], p.Answers[i][k]), ""))
		}
	}
	return r.challenge(t, "challenge") == sum
}
