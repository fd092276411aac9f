package trust_test

import (
	"math/big"
	"strings"

	"hustings/api"
	"hustings/fold"
	"hustings/sigma"
)

// What the document says of shares and posts, in the order of its words, with numbers of math/big. Posts are gone through again
// and again, so that nothing has to be remembered of them.

// modelWeight is what the value at a place is multiplied by, for the value at x.
func modelWeight(r ring, at []int, i, x int) *big.Int {
	out := big.NewInt(1)
	for k, y := range at {
		if k != i {
			out.Mul(out, big.NewInt(int64(y-x)))
			below := big.NewInt(int64(y - at[i]))
			out.Mul(out, below.ModInverse(below.Mod(below, r.order), r.order))
		}
	}
	return out.Mod(out, r.order)
}

// modelValue is that of a polynomial at x.
func modelValue(r ring, coefficients []string, x int) string {
	sum, power := new(big.Int), big.NewInt(1)
	for _, c := range coefficients {
		sum.Add(sum, new(big.Int).Mul(number(c), power))
		power.Mul(power, big.NewInt(int64(x)))
	}
	return r.scalar(sum)
}

// modelCoefficients are those that come out of a seed.
func modelCoefficients(r ring, need int, seed string) []string {
	var out []string
	for k := range need {
		tag := fold.Tag("coefficient", []string{seed, "\x00\x00\x00" + string(rune(k))})
		bytes, _ := fold.Stream(tag, "chance", 64)
		out = append(out, r.scalar(number(bytes)))
	}
	return out
}

func modelDeal(r ring, need, of int, seed string) api.Dealing {
	coefficients := modelCoefficients(r, need, seed)
	var d api.Dealing
	for _, c := range coefficients {
		d.Commits = append(d.Commits, r.raised(c))
	}
	for x := 1; x <= of; x++ {
		d.Shares = append(d.Shares, modelValue(r, coefficients, x))
	}
	return d
}

func modelSeen(r ring, commits []string, x int) string {
	out, power := r.small(1), big.NewInt(1)
	for _, c := range commits {
		out = r.times(out, r.power(c, power))
		power = new(big.Int).Mul(power, big.NewInt(int64(x)))
	}
	return out
}

func modelFits(r ring, commits []string, x int, share string) bool {
	return len(share) == r.size && number(share).Cmp(r.order) < 0 && r.raised(share) == modelSeen(r, commits, x)
}

// modelOffer is the offer of who deals with a seed.
func modelOffer(r ring, need, of, from int, seed string) api.Post {
	d := modelDeal(r, need, of, seed)
	claims := []api.Claim{{Bases: []string{r.small(2)}, Images: []string{d.Commits[0]}}}
	label := fold.Tag("offer", []string{"\x00\x00\x00" + string(rune(from))})
	proof, _ := sigma.Prove(r.kind, label, claims, modelCoefficients(r, 1, seed), seed)
	return api.Post{Do: api.PostOffer, From: from, Commits: d.Commits, Proof: proof}
}

// modelBoard is the posts that were taken.
type modelBoard struct {
	ring
	need, of int
	taken    []api.Post
}

func modelTake(r ring, need, of int, posts []api.Post) modelBoard {
	b := modelBoard{ring: r, need: need, of: of}
	for _, p := range posts {
		if b.takes(p) {
			b.taken = append(b.taken, p)
		}
	}
	return b
}

// find is the place of the post that was taken, of those that do this; -1, if there is none.
func (b modelBoard) find(do, from, about int) int {
	for i, p := range b.taken {
		if p.Do == do && p.From == from && (do == api.PostOffer || p.About == about) {
			return i
		}
	}
	return -1
}

func (b modelBoard) has(do, from, about int) bool { return b.find(do, from, about) >= 0 }

func (b modelBoard) commits(dealer int) []string {
	return b.taken[b.find(api.PostOffer, dealer, 0)].Commits
}

func (b modelBoard) takes(p api.Post) bool {
	if p.From < 1 || p.From > b.of {
		return false
	}
	switch p.Do {
	case api.PostOffer:
		if b.has(api.PostOffer, p.From, 0) || len(p.Commits) != b.need {
			return false
		}
		for _, c := range p.Commits {
			if len(c) != b.size || number(c).Sign() == 0 || number(c).Cmp(b.order) > 0 {
				return false
			}
		}
		claims := []api.Claim{{Bases: []string{b.small(2)}, Images: p.Commits[:1]}}
		label := fold.Tag("offer", []string{strings.Repeat("\x00", 3) + string(rune(p.From))})
		return sigma.Verify(b.kind, label, claims, p.Proof)
	case api.PostBlame:
		return p.About >= 1 && p.About <= b.of && p.About != p.From && b.has(api.PostOffer, p.About, 0) && !b.has(api.PostBlame, p.From, p.About)
	case api.PostShow:
		return b.has(api.PostBlame, p.About, p.From) && !b.has(api.PostShow, p.From, p.About) && modelFits(b.ring, b.commits(p.From), p.About, p.Share)
	}
	return false
}

func (b modelBoard) counts(dealer int) bool {
	if !b.has(api.PostOffer, dealer, 0) {
		return false
	}
	blames := 0
	for x := 1; x <= b.of; x++ {
		if b.has(api.PostBlame, x, dealer) {
			blames++
			if !b.has(api.PostShow, dealer, x) {
				return false
			}
		}
	}
	return blames < b.need
}

func (b modelBoard) settle() (api.Settled, api.Errno) {
	s := api.Settled{Key: b.small(1)}
	for x := 1; x <= b.of; x++ {
		if b.counts(x) {
			s.Dealers = append(s.Dealers, x)
			s.Key = b.times(s.Key, b.commits(x)[0])
		}
	}
	if len(s.Dealers) < b.need {
		return api.Settled{}, api.ErrFew
	}
	for x := 1; x <= b.of; x++ {
		public := b.small(1)
		for _, d := range s.Dealers {
			public = b.times(public, modelSeen(b.ring, b.commits(d), x))
		}
		s.Publics = append(s.Publics, public)
	}
	return s, api.OK
}

// modelTrustee is one that remembers all that it was told.
type modelTrustee struct {
	me    int
	deal  api.Dealing
	heard []modelWord
}

type modelWord struct {
	from  int
	share string
}

// knows is the share of a dealer, if it is known.
func (m modelTrustee) knows(b modelBoard, dealer int) (string, bool) {
	words := append([]modelWord{{m.me, m.deal.Shares[m.me-1]}}, m.heard...)
	for _, p := range b.taken {
		if p.Do == api.PostShow && p.About == m.me {
			words = append(words, modelWord{p.From, p.Share})
		}
	}
	for _, w := range words {
		if w.from == dealer && b.has(api.PostOffer, dealer, 0) && modelFits(b.ring, b.commits(dealer), m.me, w.share) {
			return w.share, true
		}
	}
	return "", false
}

func (m modelTrustee) blames(b modelBoard) []api.Post {
	var out []api.Post
	for x := 1; x <= b.of; x++ {
		_, knows := m.knows(b, x)
		if x != m.me && b.has(api.PostOffer, x, 0) && !knows && !b.has(api.PostBlame, m.me, x) {
			out = append(out, api.Post{Do: api.PostBlame, From: m.me, About: x})
		}
	}
	return out
}

func (m modelTrustee) shows(b modelBoard) []api.Post {
	var out []api.Post
	for x := 1; x <= b.of; x++ {
		if b.has(api.PostBlame, x, m.me) && !b.has(api.PostShow, m.me, x) {
			out = append(out, api.Post{Do: api.PostShow, From: m.me, About: x, Share: m.deal.Shares[x-1]})
		}
	}
	return out
}

func (m modelTrustee) secret(b modelBoard) (string, api.Errno) {
	s, e := b.settle()
	if e != api.OK {
		return "", e
	}
	sum := b.small(0)
	for _, d := range s.Dealers {
		share, ok := m.knows(b, d)
		if !ok {
			return "", api.ErrNone
		}
		sum = b.add(sum, share)
	}
	return sum, api.OK
}
