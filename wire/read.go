package wire

import (
	"strings"

	"hustings/api"
)

// reader reads nodes one behind the other. Whatever is not written as Print writes it, it throws ErrForm at.
type reader struct{ rest string }

// whole reads a node behind which there is nothing more.
func (r *reader) whole() api.Node {
	n := r.node(0)
	if r.rest != "" {
		panic(api.ErrForm)
	}
	return n
}

// node reads a node that so many lists lie around.
func (r *reader) node(around int) api.Node {
	if !r.comes("(") {
		return api.Node{Leaf: true, Text: r.leaf()}
	}
	if around == api.MaxDepth {
		panic(api.ErrForm)
	}
	var list []api.Node
	for !r.comes(")") {
		list = append(list, r.node(around+1))
	}
	return api.Node{List: list}
}

// leaf reads the text of a leaf. It is laid into memory of its own, so that nothing of what was handed in is kept.
func (r *reader) leaf() string {
	length, behind, ok := strings.Cut(r.rest, ":")
	if !ok {
		panic(api.ErrForm)
	}
	n, e := numberUpTo(length, len(behind))
	if e != api.OK {
		panic(api.ErrForm)
	}
	r.rest = behind[n:]
	return strings.Clone(behind[:n])
}

// comes goes on behind a sign, if it comes next.
func (r *reader) comes(sign string) bool {
	behind, ok := strings.CutPrefix(r.rest, sign)
	r.rest = behind
	return ok
}

// numberUpTo is the number that a text is: ErrForm, if it is none; ErrRange, if it is above most.
func numberUpTo(s string, most int) (int, api.Errno) {
	if s == "" || s[0] == '0' && s != "0" {
		return 0, api.ErrForm
	}
	n := 0
	for _, digit := range s {
		if digit < '0' || digit > '9' {
			return 0, api.ErrForm
		}
		if n <= most { // what is above it stays there: no number is so long that it wraps round
			n = 10*n + int(digit-'0')
		}
	}
	if n > most {
		return 0, api.ErrRange
	}
	return n, api.OK
}
