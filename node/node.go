// Package node: how layers lay what they have into nodes that are written down (chapter 4), and take it out of them again.
package node

import (
	"hustings/api"
	"hustings/wire"
)

// Write is how the node that is laid is written: ErrRange, if a number in it has no Number; ErrLong, as Print tells it.
func Write(lay func(*Layer) api.Node) (string, api.Errno) {
	l := Layer{nodesMost}
	var n api.Node
	if e := thrownBy(func() { n = lay(&l) }); e != api.OK {
		return "", e
	}
	return wire.Print(n)
}

// Read is what is taken out of a text: ErrLong, if it has too many bytes; ErrForm, if it is not a list of what is taken and
// nothing more.
func Read[T any](text string, take func(*Taker) T) (T, api.Errno) {
	var none T
	n, e := wire.Parse(text)
	if e != api.OK {
		return none, e
	}
	var out T
	if e := thrownBy(func() { out = inside(n, take) }); e != api.OK {
		return none, e
	}
	return out, api.OK
}
