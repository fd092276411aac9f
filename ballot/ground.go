package ballot

import (
	"slices"

	"hustings/api"
	"hustings/group"
)

// ground is a group that there is. It reckons with scalars, elements and ciphers that were looked at when they were
// handed in: so nothing goes wrong any more, and no error is asked for.
type ground struct{ kind int }

// groundOf is the group of a kind.
func groundOf(kind int) (ground, api.Errno) {
	_, _, e := group.Sizes(kind)
	return ground{kind}, e
}

func (g ground) noScalar(s string) bool { return !group.Scalar(g.kind, s) }

func (g ground) noElem(s string) bool { return !group.Member(g.kind, s) }

func (g ground) noCipher(c api.Cipher) bool { return g.noElem(c.A) || g.noElem(c.B) }

// strange tells whether some of a list are no ciphers.
func (g ground) strange(l []api.Cipher) bool { return slices.ContainsFunc(l, g.noCipher) }

func (g ground) base() string {
	b, _ := group.Base(g.kind)
	return b
}

func (g ground) number(n int) string {
	s, _ := group.Number(g.kind, n)
	return s
}

func (g ground) plus(a, b string) string {
	n, _ := group.Add(g.kind, a, b)
	return n
}

func (g ground) times(a, b string) string {
	p, _ := group.Times(g.kind, a, b)
	return p
}

func (g ground) under(a string) string {
	u, _ := group.Under(g.kind, a)
	return u
}

func (g ground) power(a, n string) string {
	p, _ := group.Power(g.kind, a, n)
	return p
}

// hide hides a scalar.
func (g ground) hide(key, x, nonce string) api.Cipher {
	b, _ := group.Product(g.kind, []string{g.base(), key}, []string{x, nonce})
	return api.Cipher{A: g.power(g.base(), nonce), B: b}
}

// both hides the sum of what two ciphers hide.
func (g ground) both(a, b api.Cipher) api.Cipher {
	return api.Cipher{A: g.times(a.A, b.A), B: g.times(a.B, b.B)}
}

// sum hides the sum of what all of them hide.
func (g ground) sum(l []api.Cipher) api.Cipher {
	one := g.power(g.base(), g.number(0))
	sum := api.Cipher{A: one, B: one}
	for _, c := range l {
		sum = g.both(sum, c)
	}
	return sum
}

// shown is BASE to what is hidden.
func (g ground) shown(secret string, c api.Cipher) string {
	return g.times(c.B, g.under(g.power(c.A, secret)))
}

// oneOf is the sets of which one holds, with the nonce as its secret, if a cipher hides a number from 0 to most: the one at
// that place.
func (g ground) oneOf(key string, c api.Cipher, most int) [][]api.Claim {
	sets := make([][]api.Claim, most+1)
	left, less := c.B, g.under(g.base())
	for v := range sets {
		sets[v] = []api.Claim{{Bases: []string{g.base(), key}, Images: []string{c.A, left}}}
		left = g.times(left, less)
	}
	return sets
}
