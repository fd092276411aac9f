package node

import (
	"hustings/api"
	"hustings/wire"
)

// nodesMost is how many nodes can be written down: none of them is written in fewer than two bytes.
const nodesMost = api.MaxWire / 2

// Layer lays nodes. It throws ErrLong at the first one that there are too many with to be written down: so lists whose
// entries have one and the same memory take no more room than that. (What is to be told ahead of ErrLong must be laid ahead
// of long lists.)
type Layer struct{ left int }

// laid is a node, if one more can be written down.
func (l *Layer) laid(n api.Node) api.Node {
	if l.left == 0 {
		throw(api.ErrLong)
	}
	l.left--
	return n
}

// Text is a leaf.
func (l *Layer) Text(s string) api.Node { return l.laid(api.Node{Leaf: true, Text: s}) }

// Number is a leaf with a number; it throws ErrRange, if that has no Number.
func (l *Layer) Number(n int) api.Node { return l.Text(numberText(n)) }

// Ask lays nothing; it throws ErrRange, if one of these has no Number: so that is told ahead of their being too many.
func (l *Layer) Ask(numbers []int) {
	for _, n := range numbers {
		numberText(n)
	}
}

func numberText(n int) string {
	s, e := wire.Number(n)
	throw(e)
	return s
}

// Truth is a leaf with 1 for what is true, with 0 for what is false.
func (l *Layer) Truth(b bool) api.Node {
	if b {
		return l.Number(1)
	}
	return l.Number(0)
}

// List is a list of nodes.
func (l *Layer) List(nodes ...api.Node) api.Node { return l.laid(api.Node{List: nodes}) }

// LayAll is a list of what is laid for each entry.
func LayAll[T any](l *Layer, entries []T, lay func(*Layer, T) api.Node) api.Node {
	var nodes []api.Node
	for _, x := range entries {
		nodes = append(nodes, lay(l, x))
	}
	return l.List(nodes...)
}
