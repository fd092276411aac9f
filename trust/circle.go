package trust

import (
	"slices"

	"hustings/api"
	"hustings/fold"
	"hustings/kit"
	"hustings/sigma"
)

// trusteesMost is how many trustees there may be.
const trusteesMost = 8

// circle is the trustees that come to a key: they have the numbers 1 to of, and any need of them can use it.
type circle struct {
	ground
	need, of int
}

// circleOf is the one with these numbers, in the group of a kind.
func circleOf(kind, need, of int) (circle, api.Errno) {
	g, e := groundOf(kind)
	if e == api.OK && (of < 1 || of > trusteesMost || need < 1 || need > of) {
		e = api.ErrRange
	}
	return circle{g, need, of}, e
}

// has tells whether a number is that of a trustee.
func (c circle) has(trustee int) bool { return trustee >= 1 && trustee <= c.of }

// coefficients are those of the polynomial that comes out of a seed.
func (c circle) coefficients(seed string) []string {
	out := make([]string, c.need)
	for k := range out {
		out[k] = kit.Chance(c.kind, seed, "coefficient", k)
	}
	return out
}

// dealing is what is dealt out by whoever has these coefficients.
func (c circle) dealing(coefficients []string) api.Dealing {
	shares := make([]string, c.of)
	for i := range shares {
		shares[i] = c.value(coefficients, i+1)
	}
	return api.Dealing{Commits: c.commits(coefficients), Shares: shares}
}

// makeOffer is the offer of a trustee. By the proof it knows its secret: nobody can deal what undoes another dealing.
func (c circle) makeOffer(from int, commits []string, secret, seed string) api.Post {
	proof, _ := sigma.Prove(c.kind, offerLabel(from), c.offerClaims(commits), []string{secret}, seed)
	return api.Post{Do: api.PostOffer, From: from, Commits: commits, Proof: proof}
}

// rightOffer tells whether a trustee's offer is one that may be taken.
func (c circle) rightOffer(p api.Post) bool {
	return len(p.Commits) == c.need && !slices.ContainsFunc(p.Commits, c.noElem) &&
		sigma.Verify(c.kind, offerLabel(p.From), c.offerClaims(p.Commits), p.Proof)
}

func offerLabel(from int) string { return fold.Tag("offer", []string{kit.Four(from)}) }

func (c circle) offerClaims(commits []string) []api.Claim {
	return []api.Claim{{Bases: []string{c.base()}, Images: []string{commits[0]}}}
}
