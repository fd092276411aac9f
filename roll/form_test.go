package roll_test

import (
	"fmt"
	"math/big"
	"slices"
	"strings"
	"testing"

	"hustings/api"
	"hustings/fold"
	"hustings/group"
	"hustings/roll"
	"hustings/wire"
)

func TestR1FormByHand(t *testing.T) {
	m := hamlet(api.Tiny)
	m.Name, m.Again, m.Lots = "vote", true, "\x00:"
	got, e := roll.Form(m)
	same(t, "a hamlet", got, e, "(8:manifest1:14:vote((1:~(1:-)1:11:11:1))((1:~(1:0)))((1:~1:0))(2:\x00\x01)1:11:02:\x00\x012:\x00\x011:12:\x00:)")
}

// asWritten: a manifest is written as it should be, and read again as it was.
func asWritten(t *testing.T, m api.Manifest) {
	t.Helper()
	want := formModel(m)
	got, e := roll.Form(m)
	same(t, "Form", got, e, want)
	again, e := roll.Read(want)
	same(t, "Read", again, e, m)
	digest, e := roll.Digest(m)
	same(t, "Digest", digest, e, fold.Tag("manifest", []string{want}))
}

func TestR1FormReadDigest(t *testing.T) {
	d := dice()
	for _, kind := range []int{api.Tiny, api.Short, api.Full} {
		for _, m := range []api.Manifest{town(kind), crowd(kind), hamlet(kind)} {
			asWritten(t, m)
			m.Again = !m.Again
			asWritten(t, m)
		}
		for range 100 {
			asWritten(t, anyManifest(d, kind))
		}
	}
}

// The greatest element is a public key, the number above it is none.
func TestR1GreatestKey(t *testing.T) {
	for _, kind := range []int{api.Tiny, api.Short, api.Full} {
		order, _ := group.Order(kind)
		m := town(kind)
		m.Trustees[1], m.Registrar, m.Clerk = order, order, order
		asWritten(t, m)
		n := new(big.Int).SetBytes([]byte(order))
		m.Trustees[1] = string(n.Add(n, big.NewInt(1)).FillBytes(make([]byte, len(order))))
		text, e := roll.Form(m)
		fails(t, "a key above the greatest", text == "", e, api.ErrElem)
		m, e = roll.Read(formModel(m))
		fails(t, "a key above the greatest", noManifest(m), e, api.ErrForm)
	}
}

// What is wrong is not written, has no digest, and where it is written nonetheless it is not read.
func TestR1FormWrong(t *testing.T) {
	for _, f := range faultsOfTowns() {
		m := clone(town(api.Short))
		f.do(&m)
		text, e := roll.Form(m)
		fails(t, "Form: "+f.what, text == "", e, f.e)
		digest, e := roll.Digest(m)
		fails(t, "Digest: "+f.what, digest == "", e, f.e)
		got, e := roll.Read(formModel(m))
		fails(t, "Read: "+f.what, noManifest(got), e, api.ErrForm)
	}
}

func TestR1ReadLong(t *testing.T) {
	right := formModel(town(api.Short))
	for _, b := range []string{strings.Repeat("x", api.MaxWire+1), right + strings.Repeat(" ", api.MaxWire), "(" + leaf(strings.Repeat("x", api.MaxWire)) + ")"} {
		m, e := roll.Read(b)
		fails(t, "one that is too long", noManifest(m), e, api.ErrLong)
	}
	for _, b := range []string{
		strings.Repeat("x", api.MaxWire), strings.Repeat("(", api.MaxWire), right + strings.Repeat(" ", api.MaxWire-len(right)),
		"(8:manifest1:24:town(" + strings.Repeat("(1:c", 100_000), "(8:manifest1:24:town(" + strings.Repeat("()", 500_000) + "))",
		"(8:manifest1:24:town((1:c(" + strings.Repeat("0:", 500_000) + "))))",
	} {
		m, e := roll.Read(b)
		fails(t, "a long one", noManifest(m), e, api.ErrForm)
	}
}

func TestR1ReadForm(t *testing.T) {
	right := formModel(town(api.Short))
	for _, b := range []string{
		"", "()", "(())", "8:manifest", "(8:manifest)", "0:", "(8:manifest1:2)", right + " ", " " + right, right + right, "(" + right + ")", right[1:], right[:len(right)-1],
	} {
		m, e := roll.Read(b)
		fails(t, short(b), noManifest(m), e, api.ErrForm)
	}
	for _, change := range [][2]string{
		{"8:manifest", "8:Manifest"}, {"8:manifest", "9:manifests"}, {"8:manifest", "0:"}, {"8:manifest", ""}, {"8:manifest", "(8:manifest)"},
		{"8:manifest1:2", "8:manifest2:02"}, {"8:manifest1:2", "8:manifest0:"}, {"8:manifest1:2", "8:manifest2:+2"}, {"8:manifest1:2", "8:manifest2:2 "},
		{"8:manifest1:2", "8:manifest()"}, {"8:manifest1:2", "8:manifest(1:2)"}, {"8:manifest1:2", "8:manifest13:1099511627777"},
		{"8:manifest1:2", "8:manifest20:18446744073709551618"}, {"1:04:lots", "1:24:lots"}, {"1:04:lots", "2:014:lots"}, {"1:04:lots", "2:-14:lots"},
		{"1:04:lots", "4:true4:lots"}, {"1:04:lots", "0:4:lots"}, {"1:04:lots", "4:lots"}, {"4:lots", "(4:lots)"}, {"4:lots", ""}, {"4:lots", "4:lots0:"}, {"4:lots", "4:lots()"},
	} {
		if strings.Count(right, change[0]) != 1 {
			t.Fatalf("%s stands there %d times", change[0], strings.Count(right, change[0]))
		}
		m, e := roll.Read(strings.Replace(right, change[0], change[1], 1))
		fails(t, short(change), noManifest(m), e, api.ErrForm)
	}
}

// readsOnlyWritten: what is read is what is written of it; all else is told.
func readsOnlyWritten(t *testing.T, what, b string) (read bool) {
	t.Helper()
	m, e := roll.Read(b)
	if e == api.OK {
		if formModel(m) != b || wrongModel(m) != api.OK {
			t.Errorf("%s: it is read, but is not what is written of a manifest", what)
		}
		return true
	}
	fails(t, what, noManifest(m), e, api.ErrForm)
	return false
}

// Every byte is left out, doubled and changed.
func TestR1ReadBytes(t *testing.T) {
	for _, m := range []api.Manifest{town(api.Short), hamlet(api.Tiny)} {
		right := formModel(m)
		for i := range len(right) {
			readsOnlyWritten(t, fmt.Sprint("without byte ", i), right[:i]+right[i+1:])
			readsOnlyWritten(t, fmt.Sprint("byte twice ", i), right[:i]+right[i:i+1]+right[i:])
			for _, b := range "()0129:a\x00\x7f" {
				readsOnlyWritten(t, fmt.Sprintf("byte %d is %q", i, b), right[:i]+string(b)+right[i+1:])
				readsOnlyWritten(t, fmt.Sprintf("at %d also %q", i, b), right[:i]+string(b)+right[i:])
			}
		}
	}
}

// Every node is left out, doubled, changed about with the next one, put into a list, made a list or a leaf.
func TestR1ReadNodes(t *testing.T) {
	for _, m := range []api.Manifest{town(api.Short), hamlet(api.Tiny)} {
		n, _ := wire.Parse(formModel(m))
		tried := 0
		otherNodes(n, func(other api.Node) {
			b, e := wire.Print(other)
			if e != api.OK {
				t.Fatal("a node can't be written", e)
			}
			tried++
			readsOnlyWritten(t, "other nodes", b)
		})
		if tried < 200 {
			t.Errorf("%d were tried", tried)
		}
	}
}

// otherNodes tells all nodes that come of one by one change.
func otherNodes(n api.Node, tell func(api.Node)) {
	for i := range n.List {
		with := func(nodes ...api.Node) api.Node {
			return api.Node{List: slices.Concat(n.List[:i], nodes, n.List[i+1:])}
		}
		inner := n.List[i]
		tell(with())
		tell(with(inner, inner))
		tell(with(api.Node{List: []api.Node{inner}}))
		tell(with(api.Node{}))
		tell(with(inner, api.Node{}))
		for _, s := range []string{"", "0", "1", "2", "00", "x"} {
			tell(with(api.Node{Leaf: true, Text: s}))
			tell(with(inner, api.Node{Leaf: true, Text: s}))
			tell(with(api.Node{Leaf: true, Text: s}, inner))
		}
		if i+1 < len(n.List) {
			tell(api.Node{List: slices.Concat(n.List[:i], []api.Node{n.List[i+1], inner}, n.List[i+2:])})
		}
		if !inner.Leaf {
			tell(api.Node{List: slices.Concat(n.List[:i], inner.List, n.List[i+1:])})
		}
		otherNodes(inner, func(other api.Node) { tell(with(other)) })
	}
}

// What is read shares nothing with what is read again, nor do its lists share anything with one another.
func TestE2Read(t *testing.T) {
	text := formModel(town(api.Short))
	first, _ := roll.Read(text)
	changeAll(&first)
	second, e := roll.Read(text)
	same(t, "Read again", second, e, town(api.Short))
	spare := second.Contests[0].Options
	for range 20 {
		spare = append(spare, "spare")
	}
	for i := range second.Styles {
		_ = append(second.Styles[i].Contests, 9, 9, 9, 9, 9)
	}
	_ = append(second.Trustees, "spare", "spare")
	same(t, "behind lists that were gone beyond", second, api.OK, town(api.Short))
}

// changeAll changes all that a manifest's lists have, and what lies behind them.
func changeAll(m *api.Manifest) {
	for i := range m.Contests {
		clear(m.Contests[i].Options[:cap(m.Contests[i].Options)])
	}
	for i := range m.Styles {
		clear(m.Styles[i].Contests[:cap(m.Styles[i].Contests)])
	}
	clear(m.Contests[:cap(m.Contests)])
	clear(m.Styles[:cap(m.Styles)])
	clear(m.Precincts[:cap(m.Precincts)])
	clear(m.Trustees[:cap(m.Trustees)])
}

// What is handed in is only read, the spare room behind it too.
func TestE2Manifest(t *testing.T) {
	m, kept := spacious(), spacious()
	roll.Wrong(m)
	roll.Form(m)
	roll.Digest(m)
	roll.Sign(m, 0, api.Change{Do: api.ChangeJoin}, scalar(api.Short, registrar), "seed")
	roll.Open(m)
	same(t, "the manifest", m, api.OK, kept)
	same(t, "behind its contests", m.Contests[:cap(m.Contests)], api.OK, kept.Contests[:cap(kept.Contests)])
	same(t, "behind its styles", m.Styles[:cap(m.Styles)], api.OK, kept.Styles[:cap(kept.Styles)])
	same(t, "behind its precincts", m.Precincts[:cap(m.Precincts)], api.OK, kept.Precincts[:cap(kept.Precincts)])
	same(t, "behind its trustees", m.Trustees[:cap(m.Trustees)], api.OK, kept.Trustees[:cap(kept.Trustees)])
	for i, c := range m.Contests {
		same(t, "behind its options", c.Options[:cap(c.Options)], api.OK, kept.Contests[i].Options[:cap(kept.Contests[i].Options)])
	}
	for i, s := range m.Styles {
		same(t, "behind its places", s.Contests[:cap(s.Contests)], api.OK, kept.Styles[i].Contests[:cap(kept.Styles[i].Contests)])
	}
}

// spacious is a town with something behind its lists.
func spacious() api.Manifest {
	m := clone(town(api.Short))
	for i, c := range m.Contests {
		_ = append(c.Options, "spare", "room")
		_ = append(m.Styles[i%len(m.Styles)].Contests, 7, 7)
	}
	_ = append(m.Contests, api.Contest{Name: "spare"})
	_ = append(m.Styles, api.Style{Name: "spare"})
	_ = append(m.Precincts, api.Precinct{Name: "spare"})
	_ = append(m.Trustees, "spare", "room")
	return m
}

// Empty lists are as good as none.
func TestE3Empty(t *testing.T) {
	for _, do := range []func(m *api.Manifest){
		func(m *api.Manifest) { m.Contests = []api.Contest{} },
		func(m *api.Manifest) { m.Styles[0].Contests = []int{} },
		func(m *api.Manifest) { m.Contests[0].Options = []string{} },
		func(m *api.Manifest) { m.Trustees = []string{} },
	} {
		m := town(api.Short)
		do(&m)
		if e := roll.Wrong(m); e != api.ErrForm {
			t.Errorf("an empty list: error %d", e)
		}
	}
}
