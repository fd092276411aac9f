package wire_test

import (
	"fmt"
	"math/rand/v2"
	"strings"
	"testing"

	"hustings/api"
	"hustings/wire"
)

func leaf(text string) api.Node { return api.Node{Leaf: true, Text: text} }

func list(nodes ...api.Node) api.Node { return api.Node{List: nodes} }

// nested is a node with so many lists around it.
func nested(n api.Node, lists int) api.Node {
	for range lists {
		n = list(n)
	}
	return n
}

// written is how the chapter says that a node is written.
func written(n api.Node) string {
	if n.Leaf {
		return fmt.Sprintf("%d:%s", len(n.Text), n.Text)
	}
	out := "("
	for _, inner := range n.List {
		out += written(inner)
	}
	return out + ")"
}

// same tells whether two nodes are the same; nil is as good as empty.
func same(a, b api.Node) bool {
	if a.Leaf != b.Leaf || a.Text != b.Text || len(a.List) != len(b.List) {
		return false
	}
	for i := range a.List {
		if !same(a.List[i], b.List[i]) {
			return false
		}
	}
	return true
}

// anyNode is some node with at most so many lists one within the other.
func anyNode(dice *rand.Rand, depth int) api.Node {
	if depth == 0 || dice.IntN(3) == 0 {
		return leaf(anyText(dice, dice.IntN(15)))
	}
	n := api.Node{}
	for range dice.IntN(4) {
		n.List = append(n.List, anyNode(dice, depth-1))
	}
	return n
}

// anyText is some bytes. Those that are written between texts stand in it more often than by chance.
func anyText(dice *rand.Rand, size int) string {
	out := make([]byte, size)
	for i := range out {
		out[i] = byte(dice.IntN(256))
		if dice.IntN(2) == 0 {
			out[i] = "()01:"[dice.IntN(5)]
		}
	}
	return string(out)
}

// prints: what Print must answer.
func prints(t *testing.T, what string, n api.Node, want string, wantErrno api.Errno) {
	t.Helper()
	if got, e := wire.Print(n); got != want || e != wantErrno {
		t.Errorf("Print of %s: %s %d comes, not %s %d", what, short(got), e, short(want), wantErrno)
	}
}

// parses: what Parse must answer.
func parses(t *testing.T, b string, want api.Node, wantErrno api.Errno) {
	t.Helper()
	got, e := wire.Parse(b)
	if e != wantErrno || !same(got, want) {
		t.Errorf("Parse of %s: %d comes, not %d, or another node", short(b), e, wantErrno)
	}
}

// answers: what a call from text to text must answer.
func answers(t *testing.T, call func(string) (string, api.Errno), s, want string, wantErrno api.Errno) {
	t.Helper()
	if got, e := call(s); got != want || e != wantErrno {
		t.Errorf("of %s: %s %d comes, not %s %d", short(s), short(got), e, short(want), wantErrno)
	}
}

// short is a text as a message can show it.
func short(s string) string {
	if len(s) > 120 {
		return fmt.Sprintf("%q and so on, %d bytes", s[:40], len(s))
	}
	return fmt.Sprintf("%q", s)
}

// repeated is a text so many times.
func repeated(s string, n int) string { return strings.Repeat(s, n) }
