package wire

import (
	"strconv"
	"strings"

	"hustings/api"
)

// writer writes nodes one behind the other. It throws the first error that it comes upon.
type writer struct{ text strings.Builder }

// node writes a node that so many lists lie around.
func (w *writer) node(n api.Node, around int) {
	if !inShape(n) {
		panic(api.ErrForm)
	}
	if n.Leaf {
		w.add(strconv.Itoa(len(n.Text)))
		w.add(":")
		w.add(n.Text)
		return
	}
	if around == api.MaxDepth {
		panic(api.ErrLong)
	}
	w.add("(")
	for _, inner := range n.List {
		w.node(inner, around+1)
	}
	w.add(")")
}

// add writes on, as far as there is room: so even a list that lies within itself is not written for ever.
func (w *writer) add(s string) {
	if w.text.Len()+len(s) > api.MaxWire {
		panic(api.ErrLong)
	}
	w.text.WriteString(s)
}

// inShape tells whether a node is a leaf or a list, and nothing of the other.
func inShape(n api.Node) bool {
	if n.Leaf {
		return len(n.List) == 0
	}
	return n.Text == ""
}

// misshapen tells whether anywhere in a node is one that is not in shape. What is too long to be written may be deeper
// than calls can be, have the same list in it times without number, or lie within itself:
// so no call goes down into it, and each list is looked through once.
func misshapen(n api.Node) bool {
	looked := map[*api.Node]int{} // by the first node of a list: through so many from there on
	lists := [][]api.Node{{n}}
	for len(lists) > 0 {
		list := lists[len(lists)-1]
		lists = lists[:len(lists)-1]
		done := looked[&list[0]]
		if done >= len(list) {
			continue
		}
		looked[&list[0]] = len(list)
		for _, inner := range list[done:] {
			if !inShape(inner) {
				return true
			}
			if len(inner.List) > 0 {
				lists = append(lists, inner.List)
			}
		}
	}
	return false
}
