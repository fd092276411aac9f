package tally

import (
	"maps"
	"slices"

	"hustings/api"
	"hustings/fold"
	"hustings/group"
	"hustings/kit"
	"hustings/roll"
	"hustings/sigma"
	"hustings/trust"
)

// lock is a cipher that the trustees of an election can open, and the label under which they do. Nothing is wrong with the
// manifest, and the cipher is of elements: so nothing goes wrong any more, and no error is asked for.
type lock struct {
	m     api.Manifest
	label string
	c     api.Cipher
}

// lockOf is that of a cipher, or the first thing that is wrong.
func lockOf(m api.Manifest, label string, c api.Cipher) (lock, api.Errno) {
	l := lock{m, label, c}
	e := roll.Wrong(m)
	if e == api.OK {
		e = l.wrongCipher()
	}
	return l, e
}

func (l lock) noElem(s string) bool { return !group.Member(l.m.Kind, s) }

func (l lock) wrongCipher() api.Errno {
	if l.noElem(l.c.A) || l.noElem(l.c.B) {
		return api.ErrElem
	}
	return api.OK
}

// proofLabel is what the proof of a share is said under: so it is right for no other cipher, and by no other trustee.
func (l lock) proofLabel(trustee int) string {
	return fold.Tag("share", []string{l.label, kit.Four(trustee), l.c.A, l.c.B})
}

// claims say that a value is A to the secret of a trustee.
func (l lock) claims(trustee int, value string) []api.Claim {
	base, _ := group.Base(l.m.Kind)
	return []api.Claim{{Bases: []string{base, l.c.A}, Images: []string{public(l.m, trustee), value}}}
}

// share is that of a trustee whose secret is right.
func (l lock) share(trustee int, secret, seed string) api.Share {
	value, _ := group.Power(l.m.Kind, l.c.A, secret)
	proof, _ := sigma.Prove(l.m.Kind, l.proofLabel(trustee), l.claims(trustee, value), []string{secret}, seed)
	return api.Share{Trustee: trustee, Value: value, Proof: proof}
}

// right tells whether a share is by a trustee, and proven; no proof is right of a value that is no element.
func (l lock) right(s api.Share) bool {
	return !noTrustee(l.m, s.Trustee) &&
		sigma.Verify(l.m.Kind, l.proofLabel(s.Trustee), l.claims(s.Trustee, s.Value), s.Proof)
}

// firstRight is the first right share of each trustee who has one, by their numbers.
func (l lock) firstRight(shares []api.Share) map[int]api.Share {
	first := map[int]api.Share{}
	for _, s := range shares {
		if _, there := first[s.Trustee]; !there && l.right(s) {
			first[s.Trustee] = s
		}
	}
	return first
}

// shown is BASE to what is hidden.
func (l lock) shown(shares []api.Share) (string, api.Errno) {
	first := l.firstRight(shares)
	if len(first) < l.m.Need {
		return "", api.ErrFew
	}
	trustees := slices.Sorted(maps.Keys(first))[:l.m.Need]
	var values []string
	for _, trustee := range trustees {
		values = append(values, first[trustee].Value)
	}
	power, _ := trust.Together(l.m.Kind, trustees, values)
	less, _ := group.Under(l.m.Kind, power)
	shown, _ := group.Times(l.m.Kind, l.c.B, less)
	return shown, api.OK
}
