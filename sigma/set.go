package sigma

import (
	"slices"
	"strings"

	"hustings/api"
	"hustings/fold"
)

// Limits of what is handed in.
const (
	claimsMost = 64 // of a set
	basesMost  = 8  // of a claim
)

// set is a right list of claims, in a group.
type set struct {
	ground
	claims []api.Claim
}

// setOf is the set that claims are, in the group of a kind.
func setOf(kind int, claims []api.Claim) (set, api.Errno) {
	g, e := groundOf(kind)
	if e != api.OK {
		return set{}, e
	}
	return g.set(claims)
}

// set is the one that claims are, or what is wrong with them.
func (g ground) set(claims []api.Claim) (set, api.Errno) {
	switch {
	case len(claims) > claimsMost || slices.ContainsFunc(claims, tooLong):
		return set{}, api.ErrLong
	case len(claims) == 0 || slices.ContainsFunc(claims, uneven):
		return set{}, api.ErrForm
	case slices.ContainsFunc(claims, g.strange):
		return set{}, api.ErrElem
	}
	return set{g, claims}, api.OK
}

func tooLong(c api.Claim) bool { return len(c.Bases) > basesMost || len(c.Images) > basesMost }

func uneven(c api.Claim) bool { return len(c.Bases) == 0 || len(c.Images) != len(c.Bases) }

func (g ground) strange(c api.Claim) bool { return !g.elems(c.Bases) || !g.elems(c.Images) }

// wrong is what is wrong with numbers that are handed in beside the claims: nonces, answers or secrets.
func (s set) wrong(numbers []string) api.Errno {
	switch {
	case len(numbers) != len(s.claims):
		return api.ErrForm
	case !s.scalars(numbers):
		return api.ErrScalar
	}
	return api.OK
}

// wrongSecrets is what is wrong with secrets.
func (s set) wrongSecrets(secrets []string) api.Errno {
	if e := s.wrong(secrets); e != api.OK {
		return e
	}
	if !s.holds(secrets) {
		return api.ErrProof
	}
	return api.OK
}

// holds tells whether each claim's images are what its first with its secret would be.
func (s set) holds(secrets []string) bool {
	return slices.EqualFunc(s.claims, s.firsts(secrets), func(c api.Claim, first []string) bool {
		return slices.Equal(c.Images, first)
	})
}

// firsts are those of the claims with their nonces.
func (s set) firsts(nonces []string) [][]string {
	return both(s.claims, nonces, func(c api.Claim, nonce string) []string {
		return each(c.Bases, func(base string) string { return s.power(base, nonce) })
	})
}

// back is what comes back of the claims with a challenge and their answers.
func (s set) back(challenge string, answers []string) [][]string {
	less := s.minus(s.zero(), challenge)
	return both(s.claims, answers, func(c api.Claim, answer string) []string {
		return both(c.Bases, c.Images, func(base, image string) string {
			return s.powers(base, answer, image, less)
		})
	})
}

// talk is that of the claims.
func (s set) talk(label string) *fold.Talk {
	t := s.ground.talk("claims", label)
	s.tell(t)
	return t
}

// tell says the claims.
func (s set) tell(t *fold.Talk) {
	for _, c := range s.claims {
		t.Say("bases", strings.Join(c.Bases, ""))
		t.Say("images", strings.Join(c.Images, ""))
	}
}

// tellFirsts says firsts.
func tellFirsts(t *fold.Talk, firsts [][]string) {
	for _, first := range firsts {
		t.Say("first", strings.Join(first, ""))
	}
}

// seeded is another talk, from which numbers come that nobody knows but who knows the seed.
func seeded(t *fold.Talk, seed string) *fold.Talk {
	other := t.Fork()
	other.Say("seed", seed)
	return other
}

// nonces are drawn, one for each claim.
func (s set) nonces(from *fold.Talk) []string {
	return each(s.claims, func(api.Claim) string { return s.challenge(from, "nonce") })
}

// answers are what a challenge is answered with by who knows the secrets.
func (s set) answers(nonces []string, challenge string, secrets []string) []string {
	return both(nonces, secrets, func(nonce, secret string) string {
		return s.plus(nonce, s.times(challenge, secret))
	})
}

// prove proves the claims.
func (s set) prove(label string, secrets []string, seed string) api.Proof {
	t := s.talk(label)
	nonces := s.nonces(seeded(t, seed))
	tellFirsts(t, s.firsts(nonces))
	c := s.challenge(t, "challenge")
	return api.Proof{Challenge: c, Answers: s.answers(nonces, c, secrets)}
}

// fits tells whether a proof has all that a proof of the claims must have.
func (s set) fits(p api.Proof) bool { return s.wrong(p.Answers) == api.OK && !s.noScalar(p.Challenge) }

// verify tells whether a proof that fits is right.
func (s set) verify(label string, p api.Proof) bool {
	t := s.talk(label)
	tellFirsts(t, s.back(p.Challenge, p.Answers))
	return s.challenge(t, "challenge") == p.Challenge
}
