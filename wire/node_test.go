package wire_test

import (
	"math/rand/v2"
	"slices"
	"strconv"
	"strings"
	"testing"

	"hustings/api"
	"hustings/wire"
)

func TestW1Print(t *testing.T) {
	prints(t, "the document's example", list(leaf("abc"), list(), list(leaf(""))), "(3:abc()(0:))", api.OK)
	prints(t, "an empty text", leaf(""), "0:", api.OK)
	prints(t, "an empty list", list(), "()", api.OK)
	prints(t, "any bytes", leaf("\x00:(\xff)é"), "7:\x00:(\xff)é", api.OK)
	prints(t, "ten bytes", list(leaf("0123456789"), leaf("x")), "(10:01234567891:x)", api.OK)
	dice := rand.New(rand.NewPCG(4, 1))
	for range 2000 {
		n := anyNode(dice, 12)
		prints(t, "some node", n, written(n), api.OK)
		parses(t, written(n), n, api.OK)
	}
}

func TestE3EmptyLists(t *testing.T) {
	prints(t, "a leaf with an empty list", api.Node{Leaf: true, Text: "a", List: []api.Node{}}, "1:a", api.OK)
	prints(t, "an empty list that is not nil", api.Node{List: []api.Node{}}, "()", api.OK)
}

// wrongNodes are neither leaves nor lists.
func wrongNodes() []api.Node {
	return []api.Node{
		{Leaf: true, List: []api.Node{leaf("a")}},
		{Leaf: true, Text: "a", List: []api.Node{{}}},
		{Text: "a"},
		{Text: "a", List: []api.Node{leaf("a")}},
	}
}

func TestW1PrintForm(t *testing.T) {
	for _, wrong := range wrongNodes() {
		prints(t, "a wrong node", wrong, "", api.ErrForm)
		prints(t, "a wrong node within", list(leaf("a"), list(list(), wrong, list())), "", api.ErrForm)
		prints(t, "a wrong node, 12 deep", nested(wrong, 12), "", api.ErrForm)
	}
}

func TestW1PrintDepth(t *testing.T) {
	prints(t, "a leaf within 12 lists", nested(leaf("x"), 12), repeated("(", 12)+"1:x"+repeated(")", 12), api.OK)
	prints(t, "a leaf within 13 lists", nested(leaf("x"), 13), "", api.ErrLong)
	prints(t, "12 lists", nested(list(), 11), repeated("(", 12)+repeated(")", 12), api.OK)
	prints(t, "13 lists", nested(list(), 12), "", api.ErrLong)
	prints(t, "13 lists, and a leaf", list(nested(list(), 11), nested(list(), 12), leaf("a")), "", api.ErrLong)
	prints(t, "a million lists", nested(leaf("x"), 1_000_000), "", api.ErrLong)
}

func TestW1PrintLength(t *testing.T) {
	text := repeated("x", api.MaxWire-8)
	prints(t, "a long leaf", leaf(text), "1048568:"+text, api.OK)
	prints(t, "a leaf one byte too long", leaf(text+"x"), "", api.ErrLong)
	prints(t, "a list one byte too long", list(leaf(text[1:])), "", api.ErrLong)
	prints(t, "a long list", list(leaf(text[2:])), "(1048566:"+text[2:]+")", api.OK)
	prints(t, "a text that has all bytes that there may be", leaf(repeated("x", api.MaxWire)), "", api.ErrLong)
	many := make([]api.Node, api.MaxWire/2)
	prints(t, "too many lists", list(many...), "", api.ErrLong)
	prints(t, "many lists", list(many[1:]...), "("+repeated("()", len(many)-1)+")", api.OK)
	many[1] = leaf("a")
	prints(t, "many nodes, one byte too long", list(many[1:]...), "", api.ErrLong)
}

// Where a node is wrong and too long as well, its form is told, wherever in it that is.
func TestW1PrintFormAheadOfLong(t *testing.T) {
	long, deep := leaf(repeated("x", api.MaxWire)), nested(list(), 12)
	for _, wrong := range wrongNodes() {
		prints(t, "a long node ahead of a wrong one", list(long, wrong), "", api.ErrForm)
		prints(t, "a long node behind a wrong one", list(wrong, long), "", api.ErrForm)
		prints(t, "a deep node ahead of a wrong one", list(deep, leaf(""), wrong), "", api.ErrForm)
		prints(t, "a deep node ahead of lists with a wrong one", list(deep, list(leaf("a"), list(wrong), leaf("b"))), "", api.ErrForm)
		prints(t, "a deep node behind lists", list(list(deep), list(leaf("a"), list()), list(list(wrong))), "", api.ErrForm)
		prints(t, "a wrong node, 13 deep", nested(wrong, 13), "", api.ErrForm)
		prints(t, "a wrong node, a million deep", nested(wrong, 1_000_000), "", api.ErrForm)
		wrong.Text = long.Text
		prints(t, "a long wrong node", wrong, "", api.ErrForm)
	}
}

// A list that lies within itself is deeper than any other.
func TestE1PrintOfListsWithinThemselves(t *testing.T) {
	ring := make([]api.Node, 3)
	ring[1].List = ring
	prints(t, "a list within itself", list(ring...), "", api.ErrLong)
	prints(t, "a list within itself", api.Node{List: ring}, "", api.ErrLong)
	ring[0].List = ring[:2]
	ring[1].List = ring[1:2]
	prints(t, "pieces of a list within it", api.Node{List: ring}, "", api.ErrLong)
	ring[2].Text = "a"
	prints(t, "a list within itself, with a wrong node", api.Node{List: ring}, "", api.ErrForm)
	ring[2] = leaf("")
	ring[1].List = ring[2:]
	ring[0].List = ring[:1]
	prints(t, "a list whose beginning lies within itself", api.Node{List: ring}, "", api.ErrLong)
}

// A list that begins where another one does, and has more nodes, is looked through to its end.
func TestE1PrintOfPiecesOfLists(t *testing.T) {
	for _, wrong := range wrongNodes() {
		nodes := []api.Node{leaf("a"), leaf("b"), wrong}
		deep := nested(leaf(""), 13)
		prints(t, "longer and longer pieces", list(deep, list(nodes[:1]...), list(nodes[:2]...), list(nodes...)), "", api.ErrForm)
		prints(t, "shorter and shorter pieces", list(deep, list(nodes...), list(nodes[:2]...), list(nodes[:1]...)), "", api.ErrForm)
		prints(t, "pieces without the wrong one", list(deep, list(nodes[:2]...), list(nodes[:1]...)), "", api.ErrLong)
	}
}

// doubled is a list that has one list in it twice, that has one in it twice, and so on.
func doubled(n api.Node, times int) api.Node {
	for range times {
		n = list(n, n)
	}
	return n
}

func TestE1PrintOfSharedLists(t *testing.T) {
	prints(t, "2 to the 12 leaves", doubled(leaf("a"), 12), written(doubled(leaf("a"), 12)), api.OK)
	prints(t, "2 to the 500 leaves", doubled(leaf("a"), 500), "", api.ErrLong)
	wide := leaf("a")
	for range 12 {
		wide = list(slices.Repeat([]api.Node{wide}, 1000)...)
	}
	prints(t, "1000 to the 12 leaves", wide, "", api.ErrLong)
	for _, wrong := range wrongNodes() {
		prints(t, "2 to the 500 wrong nodes", doubled(wrong, 500), "", api.ErrForm)
		prints(t, "a wrong one behind 1000 to the 12", list(wide, wrong), "", api.ErrForm)
	}
}

func TestE2PrintOnlyReads(t *testing.T) {
	room := []api.Node{leaf("a"), list(leaf("b")), leaf("spare"), {Text: "spare"}}
	before := slices.Clone(room)
	prints(t, "a list with spare room", api.Node{List: room[:2]}, "(1:a(1:b))", api.OK)
	prints(t, "a deep list with spare room", nested(api.Node{List: room[:2]}, 12), "", api.ErrLong)
	if !slices.EqualFunc(room, before, same) {
		t.Error("what was handed in is changed")
	}
}

func TestW1Parse(t *testing.T) {
	parses(t, "(3:abc()(0:))", list(leaf("abc"), list(), list(leaf(""))), api.OK)
	parses(t, "0:", leaf(""), api.OK)
	parses(t, "()", list(), api.OK)
	parses(t, "5:(1:a)", leaf("(1:a)"), api.OK)
	parses(t, "(1:)1:()", list(leaf(")"), leaf("(")), api.OK)
	parses(t, "(2:\xff\x00)", list(leaf("\xff\x00")), api.OK)
	parses(t, "10:0123456789", leaf("0123456789"), api.OK)
}

func TestW1ParseForm(t *testing.T) {
	for _, b := range []string{
		"", "(", ")", "((", "(()", "())", ")(", "()()", "() ", " ()", "()\n",
		":", ":a", "0", "1", "12", "0:a", "1:", "1:ab", "2:a", "3:ab", "1:a1:b", "1a", "a:b", "a",
		"00:", "01:a", "03:abc", "-1:", "-0:", "+1:a", " 1:a", "1 :a", "0x1:a", "1_0:0123456789", "1e0:a", "1.0:a",
		"(1:a", "1:a)", "(1:a))", "(2:a)", "(0:a)", "(01:a)", "(:)", "(0)", "(a)", "(-1:)", "(()1)",
		"\xd9\xa1:a", "\xef\xbc\x91:a", "\xff:a", "1\xff:a", "1\x00:a",
		"256:a", "65537:a", "4294967297:a", "18446744073709551617:a", "9223372036854775809:a",
		"340282366920938463463374607431768211457:a", repeated("1", 2000) + ":a",
	} {
		parses(t, b, api.Node{}, api.ErrForm)
	}
}

func TestW1ParseDepth(t *testing.T) {
	parses(t, repeated("(", 12)+"1:x"+repeated(")", 12), nested(leaf("x"), 12), api.OK)
	parses(t, repeated("(", 13)+"1:x"+repeated(")", 13), api.Node{}, api.ErrForm)
	parses(t, repeated("(", 12)+repeated(")", 12), nested(list(), 11), api.OK)
	parses(t, repeated("(", 13)+repeated(")", 13), api.Node{}, api.ErrForm)
	parses(t, "("+repeated("(", 11)+repeated(")", 11)+"(()))", list(nested(list(), 10), list(list())), api.OK)
	parses(t, repeated("(", api.MaxWire), api.Node{}, api.ErrForm)
}

func TestW1ParseLength(t *testing.T) {
	text := repeated("x", api.MaxWire-8)
	parses(t, "1048568:"+text, leaf(text), api.OK)
	parses(t, "1048569:"+text+"x", api.Node{}, api.ErrLong)
	parses(t, "1048568:"+text+"x", api.Node{}, api.ErrLong)
	parses(t, "1048569:"+text, api.Node{}, api.ErrForm)
	parses(t, "1048567:"+text, api.Node{}, api.ErrForm)
	many := make([]api.Node, api.MaxWire/2-1)
	parses(t, "("+repeated("()", len(many))+")", list(many...), api.OK)
	parses(t, "("+repeated("()", len(many)+1)+")", api.Node{}, api.ErrLong)
	for _, sign := range []string{"(", ")", "0", "1", ":", "a"} {
		parses(t, repeated(sign, api.MaxWire), api.Node{}, api.ErrForm)
		parses(t, repeated(sign, api.MaxWire+1), api.Node{}, api.ErrLong)
	}
}

// writtenUpTo is all that nodes of a few signs can be written as, by length: laid together out of what is shorter.
func writtenUpTo(most int, signs string) []map[string]api.Node {
	nodes, rows := make([]map[string]api.Node, most+1), make([]map[string][]api.Node, most+1)
	texts := []string{""}
	for size := range most + 1 {
		nodes[size], rows[size] = map[string]api.Node{}, map[string][]api.Node{}
		if size == 0 {
			rows[0][""] = nil
			continue
		}
		if size >= 2 {
			for _, text := range texts {
				if strings.Contains(signs, strconv.Itoa(len(text))) {
					nodes[size][written(leaf(text))] = leaf(text)
				}
			}
			texts = longer(texts, signs)
			for b, row := range rows[size-2] {
				nodes[size]["("+b+")"] = list(row...)
			}
		}
		for first := 1; first <= size; first++ {
			for b, n := range nodes[first] {
				for c, row := range rows[size-first] {
					rows[size][b+c] = append([]api.Node{n}, row...)
				}
			}
		}
	}
	return nodes
}

// longer is all texts with one more of the signs in front of them.
func longer(texts []string, signs string) []string {
	var out []string
	for _, sign := range signs {
		for _, text := range texts {
			out = append(out, string(sign)+text)
		}
	}
	return out
}

// Of all short texts those that a node is written as are read, and no others.
func TestW1ParseAllShortTexts(t *testing.T) {
	const most, signs = 7, "()012:"
	nodes := writtenUpTo(most, signs)
	texts := []string{""}
	for size := range most + 1 {
		right := 0
		for _, b := range texts {
			want, ok := nodes[size][b]
			if !ok {
				parses(t, b, api.Node{}, api.ErrForm)
				continue
			}
			right++
			parses(t, b, want, api.OK)
		}
		if right != len(nodes[size]) {
			t.Errorf("%d texts of %d signs are right, not %d", right, size, len(nodes[size]))
		}
		texts = longer(texts, signs)
	}
}

// Whatever is read is written as it was, even if some byte of it is not the one that was written.
func TestW1OneWayOnly(t *testing.T) {
	dice := rand.New(rand.NewPCG(4, 2))
	for range 300 {
		b := written(anyNode(dice, 5))
		for i := range len(b) {
			parses(t, b[:i], api.Node{}, api.ErrForm)
			for _, sign := range "()0129:" {
				other := b[:i] + string(sign) + b[i+1:]
				n, e := wire.Parse(other)
				if e == api.OK && written(n) != other || e != api.OK && e != api.ErrForm {
					t.Fatalf("Parse of %s: %d comes, with a node that is written as %s", short(other), e, short(written(n)))
				}
			}
		}
	}
}

// No two lists of one node that was read share memory, their spare room neither.
func TestE2ParseAnswersNewMemory(t *testing.T) {
	const b = "((1:a1:b1:c)(1:d1:e1:f1:g1:h)()(1:i))"
	n, _ := wire.Parse(b)
	spoilt, _ := wire.Parse(b)
	for i := range spoilt.List {
		inner := spoilt.List[i].List
		for j := range inner[:cap(inner)] {
			inner[:cap(inner)][j] = leaf("spoilt")
		}
		spoilt.List[i].List = n.List[i].List
		if !same(spoilt, n) {
			t.Fatalf("list %d shares memory with another one", i)
		}
	}
	if got, e := wire.Print(n); got != b || e != api.OK {
		t.Errorf("%s %d comes, not %s", got, e, b)
	}
}
