package watch_test

import (
	"fmt"
	"math/rand/v2"
	"reflect"
	"slices"
	"strconv"
	"strings"
	"testing"

	"hustings/api"
	"hustings/booth"
	"hustings/fold"
	"hustings/roll"
	"hustings/sigma"
	"hustings/watch"
	"hustings/wire"
)

// How entries are written, after the document's words.

func leaf(s string) string { return strconv.Itoa(len(s)) + ":" + s }

func number(n int) string { return leaf(strconv.Itoa(n)) }

func list(nodes ...string) string { return "(" + strings.Join(nodes, "") + ")" }

func listOf[T any](l []T, one func(T) string) string {
	var nodes []string
	for _, x := range l {
		nodes = append(nodes, one(x))
	}
	return list(nodes...)
}

func proofText(p api.Proof) string { return list(leaf(p.Challenge), listOf(p.Answers, leaf)) }

func textsText(l []string) string { return listOf(l, leaf) }

func eitherText(p api.Either) string {
	return list(textsText(p.Challenges), listOf(p.Answers, textsText))
}

func cipherText(c api.Cipher) string { return list(leaf(c.A), leaf(c.B)) }

func rowText(row []api.Cipher) string { return listOf(row, cipherText) }

func partText(p api.Part) string {
	return list(rowText(p.Ciphers), listOf(p.Proofs, eitherText), eitherText(p.Sum))
}

func choiceText(l []int) string { return listOf(l, number) }

func pairText(p [2][]api.Cipher) string { return list(rowText(p[0]), rowText(p[1])) }

// text is how a thing is written.
func (x thing) text() string {
	kind := leaf(x.kind)
	switch x.kind {
	case "change":
		c := x.change
		return list(kind, number(c.Do), leaf(c.Id), number(c.Precinct), leaf(c.Key), proofText(c.Sign))
	case "open", "close":
		return list(kind, number(x.stamp.Size), leaf(x.stamp.Head), proofText(x.stamp.Sign))
	case "cast":
		c := x.cast
		b := list(leaf("ballot"), leaf(c.Ballot.Voter), number(c.Ballot.Precinct), listOf(c.Ballot.Parts, partText))
		return list(kind, b, leaf(c.Prev), leaf(c.Code), proofText(c.Sign))
	case "opened":
		o := x.opening
		return list(kind, leaf(o.Voter), number(o.Precinct), listOf(o.Choices, choiceText), leaf(o.Seed), leaf(o.Prev), leaf(o.Code))
	case "mix":
		m := x.mixed
		return list(kind, number(x.contest), listOf(m.Pairs, pairText), listOf(m.Proofs, eitherText), listOf(m.Out, rowText))
	}
	return list(kind, number(x.which), number(x.share.Trustee), leaf(x.share.Value), proofText(x.share.Proof))
}

// formed are the kinds of things that package watch writes.
func formed() []string {
	return []string{"change", "open", "close", "cast", "opened", "mix", "share"}
}

// anyThing is one of a kind, with any texts and numbers.
func anyThing(d *rand.Rand, kind string) thing {
	text := func() string { return anyText(d, d.IntN(15)) }
	number := func() int { return d.IntN(1<<40+1) >> d.IntN(41) }
	texts := func() []string { return anyList(d, text) }
	proof := func() api.Proof { return api.Proof{Challenge: text(), Answers: texts()} }
	either := func() api.Either { return api.Either{Challenges: texts(), Answers: anyList(d, texts)} }
	cipher := func() api.Cipher { return api.Cipher{A: text(), B: text()} }
	row := func() []api.Cipher { return anyList(d, cipher) }
	part := func() api.Part { return api.Part{Ciphers: row(), Proofs: anyList(d, either), Sum: either()} }
	numbers := func() []int { return anyList(d, number) }
	pair := func() [2][]api.Cipher { return [2][]api.Cipher{row(), row()} }
	ballot := api.Ballot{Voter: text(), Precinct: number(), Parts: anyList(d, part)}
	return thing{
		kind:    kind,
		change:  api.Change{Do: number(), Id: text(), Precinct: number(), Key: text(), Sign: proof()},
		stamp:   api.Stamp{Size: number(), Head: text(), Sign: proof()},
		cast:    api.Cast{Ballot: ballot, Prev: text(), Code: text(), Sign: proof()},
		opening: api.Opening{Voter: text(), Precinct: number(), Choices: anyList(d, numbers), Seed: text(), Prev: text(), Code: text()},
		contest: number(),
		mixed:   api.Mixed{Pairs: anyList(d, pair), Proofs: anyList(d, either), Out: anyList(d, row)},
		which:   number(),
		share:   api.Share{Trustee: number(), Value: text(), Proof: proof()},
	}
}

// anyText is some bytes. Those that are written between texts stand in it more often than by chance.
func anyText(d *rand.Rand, size int) string {
	b := make([]byte, size)
	for i := range b {
		b[i] = byte(d.IntN(256))
		if d.IntN(2) == 0 {
			b[i] = "()01:"[d.IntN(5)]
		}
	}
	return string(b)
}

// anyList is some of what is made again and again; nil, if there is none.
func anyList[T any](d *rand.Rand, one func() T) []T {
	var out []T
	for range d.IntN(4) {
		out = append(out, one())
	}
	return out
}

func TestZ1Forms(t *testing.T) {
	for _, c := range []struct {
		x    thing
		want string
	}{
		{thing{kind: "change"}, "(6:change1:00:1:00:(0:()))"},
		{thing{kind: "change", change: api.Change{Do: 1, Id: "ann", Precinct: 12, Key: "k", Sign: api.Proof{Challenge: "c", Answers: []string{"a", ""}}}}, "(6:change1:13:ann2:121:k(1:c(1:a0:)))"},
		{thing{kind: "open"}, "(4:open1:00:(0:()))"},
		{thing{kind: "close", stamp: api.Stamp{Size: 7, Head: "h", Sign: api.Proof{Answers: []string{"a"}}}}, "(5:close1:71:h(0:(1:a)))"},
		{thing{kind: "cast"}, "(4:cast(6:ballot0:1:0())0:0:(0:()))"},
		{thing{kind: "cast", cast: api.Cast{Ballot: api.Ballot{Voter: "v", Precinct: 3, Parts: []api.Part{{}}}, Prev: "p", Code: "co"}}, "(4:cast(6:ballot1:v1:3((()()(()()))))1:p2:co(0:()))"},
		{thing{kind: "opened"}, "(6:opened0:1:0()0:0:0:)"},
		{thing{kind: "opened", opening: api.Opening{Voter: "v", Precinct: 1 << 40, Choices: [][]int{{1, 0}, nil}, Seed: "s", Prev: "p", Code: "c"}}, "(6:opened1:v13:1099511627776((1:11:0)())1:s1:p1:c)"},
		{thing{kind: "mix"}, "(3:mix1:0()()())"},
		{thing{kind: "mix", contest: 1, mixed: api.Mixed{Pairs: [][2][]api.Cipher{{{{A: "a", B: "b"}}, nil}}, Proofs: []api.Either{{}}, Out: [][]api.Cipher{nil, {{}}}}}, "(3:mix1:1((((1:a1:b))()))((()()))(()((0:0:))))"},
		{thing{kind: "share"}, "(5:share1:01:00:(0:()))"},
		{thing{kind: "share", which: 10, share: api.Share{Trustee: 2, Value: "v", Proof: api.Proof{Challenge: "c"}}}, "(5:share2:101:21:v(1:c()))"},
	} {
		if got, e := c.x.form(); got != c.want || e != api.OK {
			t.Errorf("%q comes, error %d, not %q", got, e, c.want)
		}
	}
}

// roomy is another thing that shares no memory, with spare room behind its lists.
func (x thing) roomy() thing {
	x.change, x.stamp, x.cast = roomy(x.change), roomy(x.stamp), roomy(x.cast)
	x.opening, x.mixed, x.share = roomy(x.opening), roomy(x.mixed), roomy(x.share)
	return x
}

// deep is all that it has, and what lies behind its lists.
func (x thing) deep() string { return deep(reflect.ValueOf(x)) }

func TestZ1AnyForms(t *testing.T) {
	d := dice(1)
	for range 300 {
		for _, kind := range formed() {
			x := anyThing(d, kind)
			if got, e := x.form(); got != x.text() || e != api.OK {
				t.Errorf("%q comes, error %d, not %q", got, e, x.text())
			}
			y := x.roomy()
			before := y.deep()
			y.form()
			if y.deep() != before {
				t.Errorf("%s: what was handed in is changed", kind)
			}
		}
	}
}

// numbersOf are the numbers that are written of a thing.
func numbersOf(x *thing) []*int {
	switch x.kind {
	case "change":
		return []*int{&x.change.Do, &x.change.Precinct}
	case "open", "close":
		return []*int{&x.stamp.Size}
	case "cast":
		return []*int{&x.cast.Ballot.Precinct}
	case "opened":
		x.opening.Choices = [][]int{{1, 2}, nil, {3}}
		return []*int{&x.opening.Precinct, &x.opening.Choices[0][0], &x.opening.Choices[0][1], &x.opening.Choices[2][0]}
	case "mix":
		return []*int{&x.contest}
	}
	return []*int{&x.which, &x.share.Trustee}
}

// overlong makes a thing too long to be written, by texts and by lists.
func overlong() []func(x *thing) {
	long := strings.Repeat("x", api.MaxWire)
	return []func(x *thing){
		func(*thing) {},
		func(x *thing) {
			x.change.Id, x.stamp.Head, x.cast.Ballot.Voter, x.opening.Voter, x.share.Value = long, long, long, long, long
			x.mixed.Out = [][]api.Cipher{{{A: long}}}
		},
		func(x *thing) {
			many := make([]string, api.MaxWire)
			x.change.Sign.Answers, x.stamp.Sign.Answers, x.cast.Sign.Answers, x.share.Proof.Answers = many, many, many, many
			x.cast.Ballot.Parts = make([]api.Part, api.MaxWire)
			x.mixed.Pairs = make([][2][]api.Cipher, api.MaxWire)
			x.opening.Choices = append(slices.Repeat([][]int{make([]int, 1000)}, 1000), x.opening.Choices...)
		},
		func(x *thing) {
			x.opening.Choices = append(make([][]int, api.MaxWire), x.opening.Choices...)
			x.mixed.Out = make([][]api.Cipher, api.MaxWire)
		},
	}
}

// TestZ1Range: a number that has no Number is told ahead of all being too long.
func TestZ1Range(t *testing.T) {
	for _, kind := range formed() {
		x := thing{kind: kind}
		for i := range numbersOf(&x) {
			for _, n := range []int{-1, 1<<40 + 1, least, most} {
				for k, lengthen := range overlong() {
					x := thing{kind: kind}
					*numbersOf(&x)[i] = n
					lengthen(&x)
					if got, e := x.form(); got != "" || e != api.ErrRange {
						t.Errorf("%s, number %d, %d (%d): %d bytes come, error %d", kind, i, n, k, len(got), e)
					}
				}
			}
			x := thing{kind: kind}
			*numbersOf(&x)[i] = 1 << 40
			if got, e := x.form(); got != x.text() || e != api.OK {
				t.Errorf("%s, number %d: %q comes, error %d", kind, i, got, e)
			}
		}
	}
}

func TestZ1Long(t *testing.T) {
	for _, kind := range formed() {
		for k, lengthen := range overlong()[1:3] {
			x := thing{kind: kind}
			lengthen(&x)
			if got, e := x.form(); got != "" || e != api.ErrLong {
				t.Errorf("%s (%d): %d bytes come, error %d", kind, k, len(got), e)
			}
		}
		// Up to the last byte.
		x := padded(kind, paddingMost(kind))
		if got, e := x.form(); got != x.text() || len(got) != api.MaxWire || e != api.OK {
			t.Errorf("%s: %d bytes come, error %d", kind, len(got), e)
		}
		if got, e := padded(kind, paddingMost(kind)+1).form(); got != "" || e != api.ErrLong {
			t.Errorf("%s: %d bytes come, error %d", kind, len(got), e)
		}
	}
}

// padded is a thing in which a text of so many bytes stands.
func padded(kind string, n int) thing {
	s := strings.Repeat("x", n)
	x := thing{kind: kind}
	x.change.Key, x.stamp.Head, x.cast.Code, x.opening.Seed, x.share.Value = s, s, s, s, s
	x.mixed.Out = [][]api.Cipher{{{A: s}}}
	return x
}

// paddingMost is how many these may be: how many bytes stand around them hangs on the digits of the number alone.
func paddingMost(kind string) int {
	return api.MaxWire - (len(padded(kind, api.MaxWire).text()) - api.MaxWire)
}

// TestE3Forms: nil and a list without entries are written alike.
func TestE3Forms(t *testing.T) {
	empty := thing{
		change:  api.Change{Sign: api.Proof{Answers: []string{}}},
		stamp:   api.Stamp{Sign: api.Proof{Answers: []string{}}},
		cast:    api.Cast{Ballot: api.Ballot{Parts: []api.Part{}}, Sign: api.Proof{Answers: []string{}}},
		opening: api.Opening{Choices: [][]int{}},
		mixed:   api.Mixed{Pairs: [][2][]api.Cipher{}, Proofs: []api.Either{}, Out: [][]api.Cipher{}},
		share:   api.Share{Proof: api.Proof{Answers: []string{}}},
	}
	for _, kind := range formed() {
		empty.kind = kind
		if got, e := empty.form(); got != (thing{kind: kind}).text() || e != api.OK {
			t.Errorf("%q comes, error %d", got, e)
		}
	}
}

func TestZ1SignCast(t *testing.T) {
	kinds(t, func(t *testing.T, kind int) {
		a, d := townOf(kind, nil), dice(2)
		for range 20 {
			c := anyThing(d, "cast").cast
			secret, seed := scalar(kind, d.IntN(600)), anyText(d, d.IntN(40))
			got, e := watch.SignCast(a.m, c, secret, seed)
			want := c
			want.Sign, _ = sigma.Sign(kind, secret, fold.Tag("cast", []string{a.digest, c.Code}), seed)
			alike(t, "SignCast", []any{got, e}, []any{want, api.OK})
		}
	})
}

func TestZ1SignCastWrong(t *testing.T) {
	kind := api.Short
	a := townOf(kind, nil)
	c := anyThing(dice(3), "cast").cast
	manifests := []struct {
		do   func(m *api.Manifest)
		want api.Errno
	}{
		{func(m *api.Manifest) { m.Kind = 0 }, api.ErrKind},
		{func(m *api.Manifest) { m.Kind = 4 }, api.ErrKind},
		{func(m *api.Manifest) { m.Name = strings.Repeat("x", 33) }, api.ErrLong},
		{func(m *api.Manifest) { m.Contests = nil }, api.ErrForm},
		{func(m *api.Manifest) { m.Need = 4 }, api.ErrRange},
		{func(m *api.Manifest) { m.Precincts[0].Name = m.Precincts[1].Name }, api.ErrTwice},
		{func(m *api.Manifest) { m.Clerk = "" }, api.ErrElem},
		{func(*api.Manifest) {}, api.OK},
	}
	size := len(scalar(kind, 0))
	for _, x := range manifests {
		for _, secret := range []string{"", "\x01", strings.Repeat("\xff", size), scalar(kind, 1) + "\x00", scalar(kind, 1)} {
			m := roomy(a.m)
			x.do(&m)
			want := x.want
			if want == api.OK && secret != scalar(kind, 1) {
				want = api.ErrScalar
			}
			got, e := watch.SignCast(m, c, secret, "seed")
			if e != want || e != api.OK && !reflect.DeepEqual(got, api.Cast{}) {
				t.Errorf("error %d comes, not %d", e, want)
			}
		}
	}
}

// TestE2SignCast: what is handed in is only read, and what is answered shares no memory with it.
func TestE2SignCast(t *testing.T) {
	a := townOf(api.Short, nil)
	d := dice(4)
	for range 20 {
		c, m := roomy(anyThing(d, "cast").cast), roomy(a.m)
		before := deep(reflect.ValueOf(c)) + deep(reflect.ValueOf(m))
		got, _ := watch.SignCast(m, c, scalar(api.Short, 9), "seed")
		if deep(reflect.ValueOf(c))+deep(reflect.ValueOf(m)) != before {
			t.Error("what was handed in is changed")
		}
		apart(t, "SignCast", got, c, m)
		want := told(reflect.ValueOf(got))
		spoil(reflect.ValueOf(&c).Elem())
		spoil(reflect.ValueOf(&m).Elem())
		if told(reflect.ValueOf(got)) != want {
			t.Error("what was answered has changed")
		}
	}
}

// shape tells whether a node is of a form.
type shape func(n api.Node) bool

func anyLeaf(n api.Node) bool { return n.Leaf }

func aNumber(n api.Node) bool {
	_, e := wire.ReadNumber(n.Text)
	return n.Leaf && e == api.OK
}

func the(text string) shape { return func(n api.Node) bool { return n.Leaf && n.Text == text } }

func row(l ...shape) shape {
	return func(n api.Node) bool {
		return !n.Leaf && slices.EqualFunc(n.List, l, func(n api.Node, s shape) bool { return s(n) })
	}
}

func many(s shape) shape {
	return func(n api.Node) bool {
		return !n.Leaf && !slices.ContainsFunc(n.List, func(n api.Node) bool { return !s(n) })
	}
}

// shapes are those of all entries but manifests.
func shapes() []shape {
	proof := row(anyLeaf, many(anyLeaf))
	either := row(many(anyLeaf), many(many(anyLeaf)))
	ciphers := many(row(anyLeaf, anyLeaf))
	ballot := row(the("ballot"), anyLeaf, aNumber, many(row(ciphers, many(either), either)))
	return []shape{
		row(the("change"), aNumber, anyLeaf, aNumber, anyLeaf, proof),
		row(the("open"), aNumber, anyLeaf, proof),
		row(the("close"), aNumber, anyLeaf, proof),
		row(the("cast"), ballot, anyLeaf, anyLeaf, proof),
		row(the("opened"), anyLeaf, aNumber, many(many(aNumber)), anyLeaf, anyLeaf, anyLeaf),
		row(the("mix"), aNumber, many(row(ciphers, ciphers)), many(either), many(ciphers)),
		row(the("share"), aNumber, aNumber, anyLeaf, proof),
	}
}

// twisted are nodes that have been made of one by a change at one place.
func twisted(n api.Node) []api.Node {
	out := []api.Node{{}, {Leaf: true}, {List: []api.Node{n}}}
	if n.Leaf {
		for _, text := range append(formed(), "", "x", "0", "1", "01", "-1", "1099511627776", "1099511627777", "manifest", "ballot", n.Text+"0", " "+n.Text) {
			out = append(out, api.Node{Leaf: true, Text: text})
		}
		return out
	}
	with := func(i, k int, more ...api.Node) {
		out = append(out, api.Node{List: slices.Concat(n.List[:i], more, n.List[k:])})
	}
	with(0, 0, api.Node{})
	for i, inner := range n.List {
		with(i, i+1)
		with(i, i, inner)
		with(i+1, i+1, api.Node{})
		with(i+1, i+1, api.Node{Leaf: true, Text: "0"})
		for _, other := range twisted(inner) {
			with(i, i+1, other)
		}
	}
	return out
}

// TestZ2Form: what is written as no entry is ErrForm; all else is ErrState where it can't come.
func TestZ2Form(t *testing.T) {
	d := dice(5)
	count := map[api.Errno]int{}
	for _, kind := range formed() {
		for range 20 {
			n, e := wire.Parse(anyThing(d, kind).text())
			if e != api.OK {
				t.Fatal("a thing that can't be read", e)
			}
			for _, other := range append(twisted(n), n) {
				text, e := wire.Print(other)
				if e != api.OK {
					t.Fatal("a node that can't be written", e)
				}
				want := api.ErrForm
				if slices.ContainsFunc(shapes(), func(s shape) bool { return s(other) }) {
					want = api.ErrState
				}
				w := watch.New()
				if got := w.See(text); got != want {
					t.Errorf("%q: error %d comes, not %d", text, got, want)
				}
				if n, _ := w.Head(); n != 0 || w.Phase() != api.PhaseNone {
					t.Errorf("%q is in the record", text)
				}
				count[want]++
			}
		}
	}
	if count[api.ErrForm] < 1000 || count[api.ErrState] < 1000 {
		t.Errorf("too few were looked at: %v", count)
	}
}

// TestZ2FormText: texts that are no nodes, and manifests that Read does not read.
func TestZ2FormText(t *testing.T) {
	a := townOf(api.Tiny, nil)
	text, _ := roll.Form(a.m)
	wrong := []string{
		"", "(", ")", "()", "0:", "8:manifest", "(8:manifest)", "change", "6:change", "(6:change)", "((6:change))", "(6:chang1:00:1:00:(0:()))",
		"(6:change1:00:1:00:(0:())", "(6:change1:00:1:00:(0:())))", " (4:open1:00:(0:()))", "(4:open1:00:(0:())) ", "(04:open1:00:(0:()))",
		"(4:OPEN1:00:(0:()))", "(6:ballot0:1:0())", text + " ", text + text, text[1:], text[:len(text)-1], "(" + text + ")",
		strings.Replace(text, "4:town", "4:to n", 1), strings.Replace(text, "4:town", "0:", 1), strings.Replace(text, "5:mayor", "5:parks", 1),
	}
	for _, s := range wrong {
		for _, ahead := range [][]string{nil, {text}} {
			w := watch.New()
			for _, s := range ahead {
				if e := w.See(s); e != api.OK {
					t.Fatal("the manifest", e)
				}
			}
			if e := w.See(s); e != api.ErrForm {
				t.Errorf("%q: error %d comes", s, e)
			}
			if n, _ := w.Head(); n != len(ahead) || w.Phase() != len(ahead) {
				t.Errorf("%q is in the record", s)
			}
		}
	}
}

// TestZ2Long: ErrLong is told ahead of all else.
func TestZ2Long(t *testing.T) {
	a := townOf(api.Tiny, nil)
	for _, kind := range formed() {
		x := padded(kind, paddingMost(kind))
		w := watch.New()
		if e := w.See(x.text()); e != api.ErrState {
			t.Errorf("%s: error %d comes", kind, e)
		}
		if e := w.See(x.text() + " "); e != api.ErrLong {
			t.Errorf("%s: error %d comes", kind, e)
		}
	}
	text, _ := roll.Form(a.m)
	for _, s := range []string{strings.Repeat("x", api.MaxWire+1), strings.Repeat("(", api.MaxWire+1), text + strings.Repeat(" ", api.MaxWire), strings.Repeat("\x00", 5<<20)} {
		w := watch.New()
		if e := w.See(s); e != api.ErrLong {
			t.Errorf("error %d comes", e)
		}
		if e := w.See(s[:api.MaxWire]); e != api.ErrForm {
			t.Errorf("error %d comes", e)
		}
	}
}

// TestZ1Ballot: a ballot is written within an entry as it is alone.
func TestZ1Ballot(t *testing.T) {
	d := dice(6)
	for range 50 {
		c := anyThing(d, "cast").cast
		alone, _ := booth.Form(c.Ballot)
		within, e := watch.FormCast(c)
		if e != api.OK || !strings.HasPrefix(within, "(4:cast"+alone) {
			t.Errorf("%q is not within %q", alone, within)
		}
	}
}

// TestE1Any: whatever is seen, nothing goes wrong but that it is told.
func TestE1Any(t *testing.T) {
	d := dice(7)
	w := watch.New()
	for range 20000 {
		text := anyText(d, d.IntN(40))
		if d.IntN(2) == 0 {
			text = fmt.Sprintf("(%s%s)", leaf(formed()[d.IntN(7)]), text)
		}
		if e := w.See(text); e != api.ErrForm && e != api.ErrState {
			t.Errorf("%q: error %d comes", text, e)
		}
	}
	if n, _ := w.Head(); n != 0 {
		t.Errorf("%d entries come", n)
	}
}
