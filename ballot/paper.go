package ballot

import (
	"hustings/api"
	"hustings/fold"
	"hustings/group"
	"hustings/kit"
	"hustings/roll"
	"hustings/sigma"
)

// paper is a sheet for one voter, and what it is hidden with.
type paper struct {
	sheet
	key      string
	digest   string // of the manifest
	voter    string
	precinct int
}

// paperFor is that of a voter, or the first thing that is wrong.
func paperFor(m api.Manifest, key, voter string, precinct int) (paper, api.Errno) {
	digest, e := roll.Digest(m)
	switch {
	case e != api.OK:
		return paper{}, e
	case !group.Member(m.Kind, key):
		return paper{}, api.ErrElem
	case !kit.Word(voter):
		return paper{}, api.ErrForm
	}
	s, e := sheetOf(m, precinct)
	return paper{s, key, digest, voter, precinct}, e
}

// spot is an option of a contest, or what stands behind its last one: their sum.
type spot struct{ contest, option int }

// optionsRoom is by how much the numbers of contests are apart, so that no two spots have one number.
const optionsRoom = 16

func (s spot) number() int { return optionsRoom*s.contest + s.option }

// seed is what the proof at a spot is made with.
func (s spot) seed(seed string) string {
	return fold.Tag("proof", []string{seed, kit.Four(s.number())})
}

// label is what the proof at a spot is said under: so it is right on no other ballot, and at no other spot.
func (p paper) label(s spot) string {
	return fold.Tag("ballot", []string{p.digest, p.voter, kit.Four(p.precinct), kit.Four(s.contest), kit.Four(s.option)})
}

// mark is a number and the nonce that it is hidden with.
type mark struct {
	x     int
	nonce string
}

// prove proves that a cipher, which hides a mark, hides one of 0 to most.
func (p paper) prove(s spot, c api.Cipher, most int, hidden mark, seed string) api.Either {
	proof, _ := sigma.ProveAny(p.kind, p.label(s), p.oneOf(p.key, c, most), hidden.x, []string{hidden.nonce}, s.seed(seed))
	return proof
}

// right tells whether such a proof is.
func (p paper) right(s spot, c api.Cipher, most int, proof api.Either) bool {
	return sigma.VerifyAny(p.kind, p.label(s), p.oneOf(p.key, c, most), proof)
}

// filled is the ballot with choices that fit.
func (p paper) filled(choices [][]int, seed string) api.Ballot {
	b := api.Ballot{Voter: p.voter, Precinct: p.precinct}
	for i, c := range p.contests {
		b.Parts = append(b.Parts, p.part(c, choices[i], seed))
	}
	return b
}

// part is what a ballot says of one contest.
func (p paper) part(c contest, choice []int, seed string) api.Part {
	var part api.Part
	all := mark{nonce: p.number(0)}
	for option, x := range choice {
		at := spot{c.place, option}
		one := mark{x, kit.Chance(p.kind, seed, "nonce", at.number())}
		cipher := p.hide(p.key, p.number(x), one.nonce)
		part.Ciphers = append(part.Ciphers, cipher)
		part.Proofs = append(part.Proofs, p.prove(at, cipher, top(c.Contest), one, seed))
		all = mark{all.x + x, p.plus(all.nonce, one.nonce)}
	}
	if c.summed() {
		part.Sum = p.prove(c.behind(), p.sum(part.Ciphers), c.Most, all, seed)
	}
	return part
}

// behind is the spot of the sum.
func (c contest) behind() spot { return spot{c.place, len(c.Options)} }

// proven tells whether all proofs of a ballot are right.
func (p paper) proven(parts []api.Part) bool {
	for i, c := range p.contests {
		if !p.partProven(c, parts[i]) {
			return false
		}
	}
	return true
}

func (p paper) partProven(c contest, part api.Part) bool {
	for option, cipher := range part.Ciphers {
		if !p.right(spot{c.place, option}, cipher, top(c.Contest), part.Proofs[option]) {
			return false
		}
	}
	return !c.summed() || p.right(c.behind(), p.sum(part.Ciphers), c.Most, part.Sum)
}
