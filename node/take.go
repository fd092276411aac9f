package node

import (
	"hustings/api"
	"hustings/wire"
)

// Taker takes the nodes of a list, one behind the other. Whatever is not there, or of another kind, it throws ErrForm at.
type Taker struct{ rest []api.Node }

// inside takes a list apart, which must be of what is taken of it and nothing more.
func inside[T any](n api.Node, take func(*Taker) T) T {
	must(!n.Leaf)
	t := Taker{n.List}
	out := take(&t)
	must(len(t.rest) == 0)
	return out
}

func (t *Taker) next() api.Node {
	must(len(t.rest) > 0)
	n := t.rest[0]
	t.rest = t.rest[1:]
	return n
}

// Text takes a leaf.
func (t *Taker) Text() string {
	n := t.next()
	must(n.Leaf)
	return n.Text
}

// Leaf takes a leaf that must have this text.
func (t *Taker) Leaf(text string) { must(t.Text() == text) }

// Refuse throws ErrForm at what was taken.
func (t *Taker) Refuse() { throw(api.ErrForm) }

// Number takes a leaf with a number.
func (t *Taker) Number() int {
	n, e := wire.ReadNumber(t.Text())
	must(e == api.OK)
	return n
}

// Truth takes a leaf with 1 or 0.
func (t *Taker) Truth() bool {
	n := t.Number()
	must(n <= 1)
	return n == 1
}

// TakeList takes a list that must be of what is taken of it and nothing more.
func TakeList[T any](t *Taker, take func(*Taker) T) T { return inside(t.next(), take) }

// TakeAll takes a list of any length, each entry in one way.
func TakeAll[T any](t *Taker, take func(*Taker) T) []T {
	return TakeList(t, func(t *Taker) []T {
		var out []T
		for len(t.rest) > 0 {
			out = append(out, take(t))
		}
		return out
	})
}
