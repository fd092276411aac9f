package mix

import (
	"hustings/api"
	"hustings/ballot"
	"hustings/fold"
	"hustings/group"
	"hustings/kit"
	"hustings/sigma"
)

// pair is the rows on the two wires of a gate: X, Y.
type pair = [2][]api.Cipher

// gate is one of a mix.
type gate struct {
	hall
	number int
}

func (h hall) gate(k int) gate { return gate{h, k} }

// How far the numbers of nonces are apart, so that no two ciphers have one number.
const (
	gateRoom = 32
	rowRoom  = 16
)

// nonce is what a cipher of the row for X (0) or Y (1) is renewed with.
func (g gate) nonce(seed string, side, place int) string {
	return kit.Chance(g.kind, seed, "renew", gateRoom*g.number+rowRoom*side+place)
}

// proofLabel is what the proof is said under: so it is right at no other gate.
func (g gate) proofLabel() string { return fold.Tag("mix", []string{g.label, kit.Four(g.number)}) }

// proofSeed is what the proof is made with.
func (g gate) proofSeed(seed string) string {
	return fold.Tag("mixing", []string{seed, kit.Four(g.number)})
}

// pass is what comes out for two rows, and the proof of it.
func (g gate) pass(in pair, crossed bool, seed string) (pair, api.Either) {
	var out pair
	var nonces []string
	for side, row := range turned(in, crossed) {
		for place, c := range row {
			nonce := g.nonce(seed, side, place)
			renewed, _ := ballot.Renew(g.kind, g.key, c, nonce)
			out[side] = append(out[side], renewed)
			nonces = append(nonces, nonce)
		}
	}
	which := straightSet
	if crossed {
		which = crossedSet
	}
	proof, _ := sigma.ProveAny(g.kind, g.proofLabel(), g.sets(in, out), which, nonces, g.proofSeed(seed))
	return out, proof
}

// right tells whether a proof is, that this came out for two rows.
func (g gate) right(in, out pair, proof api.Either) bool {
	return sigma.VerifyAny(g.kind, g.proofLabel(), g.sets(in, out), proof)
}

// The places of the two sets.
const (
	straightSet = iota
	crossedSet
)

// sets is the two sets of claims of which one holds, with the nonces as its secrets.
func (g gate) sets(in, out pair) [][]api.Claim {
	less := pair{g.under(in[0]), g.under(in[1])} // both sets need all of it
	return [][]api.Claim{
		straightSet: g.claims(less, out),
		crossedSet:  g.claims(turned(less, true), out),
	}
}

// under is what takes a row out of another one.
func (g gate) under(row []api.Cipher) []api.Cipher {
	out := make([]api.Cipher, len(row))
	for i, c := range row {
		out[i].A, _ = group.Under(g.kind, c.A)
		out[i].B, _ = group.Under(g.kind, c.B)
	}
	return out
}

// claims say that each cipher that came out was renewed: less takes out what it was renewed from.
func (g gate) claims(less, out pair) []api.Claim {
	var claims []api.Claim
	for side, row := range out {
		for place, c := range row {
			claims = append(claims, g.renewal(c, less[side][place]))
		}
	}
	return claims
}

// renewal is the claim that what is left of a cipher is a nonce's powers alone.
func (g gate) renewal(c, less api.Cipher) api.Claim {
	a, _ := group.Times(g.kind, c.A, less.A)
	b, _ := group.Times(g.kind, c.B, less.B)
	return api.Claim{Bases: []string{g.base, g.key}, Images: []string{a, b}}
}
