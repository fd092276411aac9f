package node_test

import (
	"errors"
	"reflect"
	"slices"
	"strings"
	"testing"

	"hustings/api"
	"hustings/node"
)

// pair is something that is written: a list of the leaf `pair`, a name, a number, a truth, and a list of lists of texts.
type pair struct {
	name  string
	n     int
	yes   bool
	lists [][]string
}

func (p pair) lay(l *node.Layer) api.Node {
	return l.List(l.Text("pair"), l.Text(p.name), l.Number(p.n), l.Truth(p.yes), node.LayAll(l, p.lists, layTexts))
}

func layTexts(l *node.Layer, texts []string) api.Node {
	return node.LayAll(l, texts, (*node.Layer).Text)
}

func takePair(t *node.Taker) pair {
	t.Leaf("pair")
	return pair{t.Text(), t.Number(), t.Truth(), node.TakeAll(t, takeTexts)}
}

func takeTexts(t *node.Taker) []string { return node.TakeAll(t, (*node.Taker).Text) }

func TestT1WriteRead(t *testing.T) {
	for _, c := range []struct {
		p    pair
		want string
	}{
		{pair{"a", 10, true, [][]string{{"b", ""}, nil}}, "(4:pair1:a2:101:1((1:b0:)()))"},
		{pair{"(:)", 0, false, nil}, "(4:pair3:(:)1:01:0())"},
		{pair{"", 1 << 40, true, [][]string{nil}}, "(4:pair0:13:10995116277761:1(()))"},
	} {
		got, e := node.Write(c.p.lay)
		if got != c.want || e != api.OK {
			t.Errorf("%q comes, error %d, not %q", got, e, c.want)
		}
		p, e := node.Read(c.want, takePair)
		if !reflect.DeepEqual(p, c.p) || e != api.OK {
			t.Errorf("%v comes, error %d, not %v", p, e, c.p)
		}
	}
}

func TestT1WriteRange(t *testing.T) {
	for _, n := range []int{-1, 1<<40 + 1, -1 << 63, 1<<63 - 1} {
		for _, p := range []pair{{n: n}, {name: strings.Repeat("x", api.MaxWire), n: n}} {
			if got, e := node.Write(p.lay); got != "" || e != api.ErrRange {
				t.Errorf("%d: %q comes, error %d", n, got, e)
			}
		}
	}
}

// Nodes are laid as long as they can be written, up to the last one; lists that share memory are no more than that.
func TestT1WriteLong(t *testing.T) {
	around := len("(4:pair0:1:01:0())")
	for _, name := range []string{"", "x"} {
		most := (api.MaxWire - around - len(name)) / 2
		p := pair{name: name, lists: make([][]string, most)}
		if got, e := node.Write(p.lay); len(got) != around+len(name)+2*most || e != api.OK {
			t.Errorf("%d bytes come, error %d", len(got), e)
		}
		p.lists = append(p.lists, nil)
		if got, e := node.Write(p.lay); got != "" || e != api.ErrLong {
			t.Errorf("%d bytes come, error %d", len(got), e)
		}
	}
	empties := func(n int) func(*node.Layer) api.Node {
		return func(l *node.Layer) api.Node { return node.LayAll(l, make([][]string, n), layTexts) }
	}
	if got, e := node.Write(empties(api.MaxWire/2 - 1)); len(got) != api.MaxWire || e != api.OK {
		t.Errorf("%d bytes come, error %d", len(got), e)
	}
	if got, e := node.Write(empties(api.MaxWire / 2)); got != "" || e != api.ErrLong {
		t.Errorf("%d bytes come, error %d", len(got), e)
	}
	p := pair{lists: slices.Repeat([][]string{make([]string, 1_000_000)}, 1_000_000)}
	if got, e := node.Write(p.lay); got != "" || e != api.ErrLong {
		t.Errorf("%d bytes come, error %d", len(got), e)
	}
}

func TestT1ReadWrong(t *testing.T) {
	for _, b := range []string{
		"", "()", "4:pair", "(4:pair)", "(4:pear1:a1:11:1())", "((4:pair)1:a1:11:1())", "(1:a1:11:1())", "(4:pair()1:11:1())", "(4:pair1:a2:011:1())",
		"(4:pair1:a()1:1())", "(4:pair1:a13:10995116277771:1())", "(4:pair1:a1:11:2())", "(4:pair1:a1:10:())", "(4:pair1:a1:11:1)", "(4:pair1:a1:11:10:)",
		"(4:pair1:a1:11:1(0:))", "(4:pair1:a1:11:1((())))", "(4:pair1:a1:11:1()())", "(4:pair1:a1:11:1()0:)", "(4:pair1:a1:11:1()", "(4:pair1:a1:11:1()))",
	} {
		if p, e := node.Read(b, takePair); !reflect.DeepEqual(p, pair{}) || e != api.ErrForm {
			t.Errorf("%s: %v comes, error %d", b, p, e)
		}
	}
	if p, e := node.Read(strings.Repeat("x", api.MaxWire+1), takePair); !reflect.DeepEqual(p, pair{}) || e != api.ErrLong {
		t.Errorf("%v comes, error %d", p, e)
	}
}

// What is thrown and is no fault of a node goes on: nothing is told as if it were one.
func TestE1OtherPanics(t *testing.T) {
	for _, other := range []any{"text", 7, errors.New("other")} {
		var caught any
		func() {
			defer func() { caught = recover() }()
			node.Read("()", func(*node.Taker) int { panic(other) })
		}()
		if caught != other {
			t.Errorf("%v comes, not %v", caught, other)
		}
	}
}

// What is asked for is not laid; that it has no Number is told ahead of what comes behind it.
func TestZ1Ask(t *testing.T) {
	for _, c := range []struct {
		numbers []int
		text    string
		want    string
		e       api.Errno
	}{
		{nil, "a", "(1:a)", api.OK},
		{[]int{0, 1 << 40}, "a", "(1:a)", api.OK},
		{[]int{0, -1}, "a", "", api.ErrRange},
		{[]int{1<<40 + 1, 0}, strings.Repeat("x", api.MaxWire), "", api.ErrRange},
		{make([]int, api.MaxWire), "a", "(1:a)", api.OK},
	} {
		got, e := node.Write(func(l *node.Layer) api.Node {
			l.Ask(c.numbers)
			return l.List(l.Text(c.text))
		})
		if got != c.want || e != c.e {
			t.Errorf("%q comes, error %d, not %q, error %d", got, e, c.want, c.e)
		}
	}
}

func TestZ2Refuse(t *testing.T) {
	got, e := node.Read("(1:a)", func(t *node.Taker) string {
		text := t.Text()
		if text == "a" {
			t.Refuse()
		}
		return text
	})
	if got != "" || e != api.ErrForm {
		t.Errorf("%q comes, error %d", got, e)
	}
}
