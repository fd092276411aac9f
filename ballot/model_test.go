package ballot_test

import (
	"slices"

	"hustings/api"
	"hustings/fold"
	"hustings/roll"
	"hustings/sigma"
)

// What the document says of ballots, in the order of its words, with numbers of math/big.

func (r ring) encryptModel(key, x, nonce string) api.Cipher {
	base := r.small(2)
	return api.Cipher{A: r.power(base, nonce), B: r.times(r.power(base, x), r.power(key, nonce))}
}

func (r ring) sumModel(l []api.Cipher) api.Cipher {
	a, b := r.small(1), r.small(1)
	for _, c := range l {
		a, b = r.times(a, c.A), r.times(b, c.B)
	}
	return api.Cipher{A: a, B: b}
}

func (r ring) renewModel(key string, c api.Cipher, nonce string) api.Cipher {
	return api.Cipher{A: r.times(c.A, r.power(r.small(2), nonce)), B: r.times(c.B, r.power(key, nonce))}
}

func (r ring) decryptModel(secret string, c api.Cipher) string {
	return r.over(c.B, r.power(c.A, secret))
}

func hasRanks(c api.Contest) bool {
	return c.Rule == api.RuleTransfer || c.Rule == api.RulePairs
}

func topModel(c api.Contest) int {
	if hasRanks(c) {
		return len(c.Options)
	}
	return 1
}

// fitsModel sorts what is above 0: there must stand 1, 2, 3 and so on.
func fitsModel(c api.Contest, choice []int) api.Errno {
	if len(choice) != len(c.Options) {
		return api.ErrForm
	}
	var above []int
	for _, x := range choice {
		if x < 0 || x > topModel(c) {
			return api.ErrRange
		}
		if x > 0 {
			above = append(above, x)
		}
	}
	slices.Sort(above)
	for i, x := range above {
		if hasRanks(c) && x != i+1 {
			return api.ErrRange
		}
	}
	if c.Rule == api.RulePlural && len(above) > c.Most {
		return api.ErrRange
	}
	return api.OK
}

func four(n int) string {
	return string([]byte{byte(n >> 24), byte(n >> 16), byte(n >> 8), byte(n)})
}

// nonceModel is CHANCE(seed, `nonce`, 16 i + j).
func (r ring) nonceModel(seed string, i, j int) string {
	b, _ := fold.Stream(fold.Tag("nonce", []string{seed, four(16*i + j)}), "chance", 64)
	n := number(b)
	return r.text(n.Mod(n, r.order))
}

func labelModel(m api.Manifest, voter string, precinct, i, j int) string {
	digest, _ := roll.Digest(m)
	return fold.Tag("ballot", []string{digest, voter, four(precinct), four(i), four(j)})
}

func seedModel(seed string, i, j int) string {
	return fold.Tag("proof", []string{seed, four(16*i + j)})
}

// setsModel say that a cipher hides one of 0 to n.
func (r ring) setsModel(key string, c api.Cipher, n int) [][]api.Claim {
	var sets [][]api.Claim
	for v := range n + 1 {
		image := r.over(c.B, r.power(r.small(2), r.small(int64(v))))
		sets = append(sets, []api.Claim{{Bases: []string{r.small(2), key}, Images: []string{c.A, image}}})
	}
	return sets
}

// fillModel is a ballot; choices need not fit, but what cannot be proven has an empty proof.
func (r ring) fillModel(m api.Manifest, key, voter string, precinct int, choices [][]int, seed string) api.Ballot {
	b := api.Ballot{Voter: voter, Precinct: precinct}
	for at, i := range m.Styles[m.Precincts[precinct].Style].Contests {
		c := m.Contests[i]
		var part api.Part
		prove := func(cipher api.Cipher, n, x, j int, nonce string) api.Either {
			p, _ := sigma.ProveAny(m.Kind, labelModel(m, voter, precinct, i, j), r.setsModel(key, cipher, n), x, []string{nonce}, seedModel(seed, i, j))
			return p
		}
		marks, nonces := 0, r.small(0)
		for j, x := range choices[at] {
			nonce := r.nonceModel(seed, i, j)
			cipher := r.encryptModel(key, r.small(int64(x)), nonce)
			part.Ciphers = append(part.Ciphers, cipher)
			part.Proofs = append(part.Proofs, prove(cipher, topModel(c), x, j, nonce))
			marks, nonces = marks+x, r.add(nonces, nonce)
		}
		if c.Rule == api.RulePlural {
			part.Sum = prove(r.sumModel(part.Ciphers), c.Most, marks, len(c.Options), nonces)
		}
		b.Parts = append(b.Parts, part)
	}
	return b
}
