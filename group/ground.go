package group

import "hustings/api"

// ground is what a kind stands on.
type ground struct {
	size    int   // bytes of a scalar, and of an element
	scalars field // modulo ORDER
	elems   field // modulo PRIME
}

// groundOf is the ground of a kind, if there is one. All numbers but the primes follow from these, as field says:
// they are written out so that no call has to work them out.
func groundOf(kind int) (ground, bool) {
	switch kind {
	case api.Tiny:
		return ground{
			size:    2,
			scalars: field{1, number{0x281}, 0x00663d80ff99c27f, number{1}, number{1}},
			elems:   field{1, number{0x503}, 0x0993da7ce8417255, number{0x3dd}, number{0x1db}},
		}, true
	case api.Short:
		return ground{
			size:    8,
			scalars: field{1, number{0x0800044180000001}, 0xc80004417fffffff, number{0x07ff7c117fffffe1}, number{0x02493af4f1a3b554}},
			elems:   field{1, number{0x1000088300000003}, 0x1e38e48055555555, number{0x0fff8052ffffffd3}, number{0x025a40f06a7592fe}},
		}, true
	case api.Full:
		return ground{
			size: 32,
			scalars: field{
				words:   4,
				modulus: number{1, 0x8000000000000000, 0x11bf, 0x1000000000000000},
				low:     0xffffffffffffffff,
				one:     number{0xfffffffffffffff1, 0x7fffffffffffffff, 0xfffffffffffef5c7, 0x0fffffffffffffff},
				square:  number{0xffffffec501bfd01, 0x7fffffffffffffff, 0xfffea297c8ce92bf, 0x0fffffffffffffff},
			},
			elems: field{
				words:   4,
				modulus: number{3, 0, 0x237f, 0x2000000000000000},
				low:     0x5555555555555555,
				one:     number{0xffffffffffffffeb, 0xffffffffffffffff, 0xffffffffffff0786, 0x1fffffffffffffff},
				square:  number{0xffffffe27829fc43, 0xffffffffffffffff, 0xfffea297c8e063fe, 0x1fffffffffffffff},
			},
		}, true
	}
	return ground{}, false
}

// scalar is the one that bytes are.
func (g *ground) scalar(s string) (number, api.Errno) {
	if len(s) == g.size {
		if n := numberOf(s); n.less(g.scalars.modulus) {
			return n, api.OK
		}
	}
	return number{}, api.ErrScalar
}

// elem is the element that bytes are.
func (g *ground) elem(s string) (number, api.Errno) {
	if len(s) == g.size {
		if n := numberOf(s); n != (number{}) && !g.scalars.modulus.less(n) {
			return n, api.OK
		}
	}
	return number{}, api.ErrElem
}

// signed is c or what is missing of it to PRIME, whichever is not above ORDER.
// Of numbers within it is at least always the same one of the two, so that they can be held against each other.
func (g *ground) signed(c number) number {
	if g.scalars.modulus.less(c) {
		c, _ = g.elems.modulus.minus(c)
	}
	return c
}

// told is a number as it is answered.
func (g *ground) told(n number) (string, api.Errno) { return n.text(g.size), api.OK }

// toldElem is an element as it is answered.
func (g *ground) toldElem(c number) (string, api.Errno) { return g.told(g.signed(c)) }

// What is told of a kind.
func (g *ground) sizes() (int, api.Errno) { return g.size, api.OK }

func (g *ground) order() (string, api.Errno) { return g.told(g.scalars.modulus) }

func (g *ground) prime() (string, api.Errno) { return g.told(g.elems.modulus) }

func (g *ground) base() (string, api.Errno) { return g.told(number{2}) }

// inverse is the scalar whose product with a is 1.
func (g *ground) inverse(a number) (string, api.Errno) {
	if a == (number{}) {
		return "", api.ErrZero
	}
	return g.told(g.scalars.inverse(a))
}

// times is the product of two elements.
func (g *ground) times(a, b number) (string, api.Errno) { return g.toldElem(g.elems.times(a, b)) }

// under is the element whose product with a is 1.
func (g *ground) under(a number) (string, api.Errno) { return g.toldElem(g.elems.inverse(a)) }

// power is the power of a by n.
func (g *ground) power(a, n number) (string, api.Errno) {
	return g.toldElem(g.elems.powers([]number{a}, []number{n}))
}

// product is the product of the powers of each a by its n.
func (g *ground) product(a []string, n []string) (string, api.Errno) {
	elems, scalars := make([]number, len(a)), make([]number, len(a))
	for i := range a {
		var e api.Errno
		if elems[i], e = g.elem(a[i]); e != api.OK {
			return "", e
		}
		if scalars[i], e = g.scalar(n[i]); e != api.OK {
			return "", e
		}
	}
	return g.toldElem(g.elems.powers(elems, scalars))
}
