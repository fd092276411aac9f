package trust

import (
	"hustings/api"
	"hustings/group"
)

// ground is a group that there is. It reckons with scalars and elements that were looked at when they were handed in:
// so nothing goes wrong any more, and no error is asked for.
type ground struct{ kind int }

// groundOf is the group of a kind.
func groundOf(kind int) (ground, api.Errno) {
	_, _, e := group.Sizes(kind)
	return ground{kind}, e
}

func (g ground) base() string {
	b, _ := group.Base(g.kind)
	return b
}

func (g ground) number(n int) string {
	s, _ := group.Number(g.kind, n)
	return s
}

func (g ground) plus(a, b string) string {
	n, _ := group.Add(g.kind, a, b)
	return n
}

func (g ground) times(a, b string) string {
	n, _ := group.Mul(g.kind, a, b)
	return n
}

// over divides by what is not 0.
func (g ground) over(a, b string) string {
	n, _ := group.Inv(g.kind, b)
	return g.times(a, n)
}

// raised is BASE to a scalar.
func (g ground) raised(n string) string {
	p, _ := group.Power(g.kind, g.base(), n)
	return p
}

// joined is the product of two elements.
func (g ground) joined(a, b string) string {
	p, _ := group.Times(g.kind, a, b)
	return p
}

// powers is the product of the powers of elements by scalars.
func (g ground) powers(elems, scalars []string) string {
	p, _ := group.Product(g.kind, elems, scalars)
	return p
}

func (g ground) noScalar(s string) bool { return !group.Scalar(g.kind, s) }

func (g ground) noElem(s string) bool { return !group.Member(g.kind, s) }
