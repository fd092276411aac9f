package sigma

import (
	"slices"

	"hustings/api"
	"hustings/fold"
	"hustings/group"
)

// ground is a group that there is. It reckons with scalars and elements that were looked at when they were handed in:
// so nothing goes wrong any more, and no error is asked for.
type ground struct{ kind int }

// groundOf is the group of a kind.
func groundOf(kind int) (ground, api.Errno) {
	_, _, e := group.Sizes(kind)
	return ground{kind}, e
}

func (g ground) base() string {
	b, _ := group.Base(g.kind)
	return b
}

func (g ground) zero() string {
	n, _ := group.Number(g.kind, 0)
	return n
}

func (g ground) plus(a, b string) string {
	n, _ := group.Add(g.kind, a, b)
	return n
}

func (g ground) minus(a, b string) string {
	n, _ := group.Sub(g.kind, a, b)
	return n
}

func (g ground) times(a, b string) string {
	n, _ := group.Mul(g.kind, a, b)
	return n
}

// inverse is asked for of differences that are not 0.
func (g ground) inverse(a string) string {
	n, _ := group.Inv(g.kind, a)
	return n
}

func (g ground) power(a, n string) string {
	p, _ := group.Power(g.kind, a, n)
	return p
}

// powers is the product of two powers.
func (g ground) powers(a, n, b, m string) string {
	p, _ := group.Product(g.kind, []string{a, b}, []string{n, m})
	return p
}

func (g ground) challenge(t *fold.Talk, label string) string {
	c, _ := group.Challenge(g.kind, t, label)
	return c
}

func (g ground) noScalar(s string) bool { return !group.Scalar(g.kind, s) }

func (g ground) noElem(s string) bool { return !group.Member(g.kind, s) }

// scalars tells whether all of a list are some.
func (g ground) scalars(l []string) bool { return !slices.ContainsFunc(l, g.noScalar) }

// elems tells whether all of a list are some.
func (g ground) elems(l []string) bool { return !slices.ContainsFunc(l, g.noElem) }

// talk begins one of claims, or of sets.
func (g ground) talk(about, label string) *fold.Talk {
	t := fold.NewTalk(about)
	t.Say("label", label)
	t.Say("kind", string([]byte{byte(g.kind)}))
	return t
}
