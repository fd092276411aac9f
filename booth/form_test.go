package booth_test

import (
	"fmt"
	"slices"
	"strings"
	"testing"

	"hustings/api"
	"hustings/ballot"
	"hustings/booth"
	"hustings/wire"
)

// small is a ballot that has something, and nothing, of everything.
func small() api.Ballot {
	return api.Ballot{Voter: "ann", Precinct: 12, Parts: []api.Part{
		{
			Ciphers: []api.Cipher{{A: "a", B: "bb"}, {}},
			Proofs:  []api.Either{{Challenges: []string{"c", ""}, Answers: [][]string{{"d", "e"}, nil}}, {}},
			Sum:     api.Either{Challenges: []string{"f"}, Answers: [][]string{{"(1:"}}},
		},
		{},
	}}
}

const smallWritten = "(6:ballot3:ann2:12((((1:a2:bb)(0:0:))(((1:c0:)((1:d1:e)()))(()()))((1:f)((3:(1:))))(()()(()()))))"

// real is a ballot that was filled.
func real(t *testing.T, m api.Manifest, choices [][]int) api.Ballot {
	t.Helper()
	b, e := ballot.Fill(m, key(m.Kind), "ann", 0, choices, "seed")
	if e != api.OK {
		t.Fatal("a ballot can't be filled", e)
	}
	return b
}

func TestT1FormByHand(t *testing.T) {
	got, e := booth.Form(small())
	same(t, "a small ballot", got, e, smallWritten)
	got, e = booth.Form(api.Ballot{})
	same(t, "an empty one", got, e, "(6:ballot0:1:0())")
}

// asWritten: a ballot is written as it should be, and read again as it was.
func asWritten(t *testing.T, b api.Ballot) {
	t.Helper()
	want := formModel(b)
	got, e := booth.Form(b)
	same(t, "Form", got, e, want)
	again, e := booth.Read(want)
	same(t, "Read", again, e, b)
}

func TestT1FormRead(t *testing.T) {
	asWritten(t, small())
	asWritten(t, api.Ballot{})
	d := dice()
	for range 2000 {
		asWritten(t, anyBallot(d))
	}
	kinds(t, func(t *testing.T, kind int) {
		asWritten(t, real(t, town(kind), townChoices()))
	})
	m := crowd(api.Full)
	asWritten(t, real(t, m, anyChoices(d, m, 0)))
}

func TestT1FormRange(t *testing.T) {
	for _, n := range []int{0, 1, 1<<40 - 1, 1 << 40} {
		asWritten(t, api.Ballot{Voter: "ann", Precinct: n})
	}
	for _, n := range []int{-1, 1<<40 + 1, least, most} {
		b := small()
		b.Precinct = n
		got, e := booth.Form(b)
		fails(t, fmt.Sprint("precinct ", n), got, e, api.ErrRange)
		b.Voter = strings.Repeat("x", api.MaxWire+1)
		got, e = booth.Form(b)
		fails(t, fmt.Sprint("a long one, precinct ", n), got, e, api.ErrRange)
	}
}

// atMost is a ballot with a voter so long that it is written in as many bytes as there may be, and a few more.
func atMost(t *testing.T, b api.Ballot, more int) api.Ballot {
	t.Helper()
	b.Voter = strings.Repeat("v", api.MaxWire+more)
	b.Voter = b.Voter[len(formModel(b))-api.MaxWire-more:]
	for len(formModel(b)) < api.MaxWire+more { // the length of the voter may be written in fewer digits now
		b.Voter += "v"
	}
	if len(formModel(b)) != api.MaxWire+more {
		t.Fatal("no ballot is so long")
	}
	return b
}

func TestT1FormLong(t *testing.T) {
	many := small()
	many.Parts[0].Sum.Answers = make([][]string, 100_000)
	more := small()
	more.Parts = slices.Repeat(more.Parts, 5000)
	for _, b := range []api.Ballot{{}, small(), many, more} {
		asWritten(t, atMost(t, b, 0))
		for _, beyond := range []int{1, 2, 100} {
			got, e := booth.Form(atMost(t, b, beyond))
			fails(t, "a long one", got, e, api.ErrLong)
			got, e = booth.Code(strings.Repeat("p", 32), atMost(t, b, beyond))
			fails(t, "the code of a long one", got, e, api.ErrLong)
		}
	}
	last := api.Ballot{Parts: []api.Part{{}}}
	around := len(formModel(last))
	last.Parts[0].Sum.Answers = make([][]string, (api.MaxWire-around)/2)
	got, e := booth.Form(last)
	same(t, "as many lists as can be", len(got), e, around+2*len(last.Parts[0].Sum.Answers))
	last.Parts[0].Sum.Answers = append(last.Parts[0].Sum.Answers, nil)
	got, e = booth.Form(last)
	fails(t, "one more", got, e, api.ErrLong)
}

// Lists that share memory can have more entries than there is room for anywhere.
func TestE1FormSharedMemory(t *testing.T) {
	texts := make([]string, 10_000)
	either := api.Either{Challenges: texts, Answers: slices.Repeat([][]string{texts}, 10_000)}
	part := api.Part{Ciphers: make([]api.Cipher, 10_000), Proofs: slices.Repeat([]api.Either{either}, 10_000), Sum: either}
	b := api.Ballot{Parts: slices.Repeat([]api.Part{part}, 10_000)}
	got, e := booth.Form(b)
	fails(t, "Form", got, e, api.ErrLong)
	b.Precinct = -1
	got, e = booth.Form(b)
	fails(t, "Form, without a number", got, e, api.ErrRange)
}

func TestE3Form(t *testing.T) {
	b := api.Ballot{Voter: "ann", Parts: []api.Part{{
		Ciphers: []api.Cipher{},
		Proofs:  []api.Either{{Challenges: []string{}, Answers: [][]string{{}}}, {Challenges: nil, Answers: [][]string{}}},
		Sum:     api.Either{Challenges: []string{}, Answers: [][]string{}},
	}}}
	got, e := booth.Form(b)
	same(t, "empty lists", got, e, "(6:ballot3:ann1:0((()((()(()))(()()))(()()))))")
	got, e = booth.Form(api.Ballot{Voter: "ann", Parts: []api.Part{}})
	same(t, "no parts", got, e, "(6:ballot3:ann1:0())")
}

func TestT1ReadLong(t *testing.T) {
	for _, text := range []string{
		strings.Repeat("x", api.MaxWire+1), smallWritten + strings.Repeat(" ", api.MaxWire), strings.Repeat("(", 2*api.MaxWire),
		formModel(atMost(t, small(), 1)),
	} {
		got, e := booth.Read(text)
		fails(t, "one that is too long", got, e, api.ErrLong)
	}
	for _, text := range []string{
		strings.Repeat("x", api.MaxWire), strings.Repeat("(", api.MaxWire), smallWritten + strings.Repeat(" ", api.MaxWire-len(smallWritten)),
		"(6:ballot3:ann1:0(" + strings.Repeat("()", 500_000) + "))", "(6:ballot3:ann1:0((((" + strings.Repeat("0:", 500_000) + ")))))",
	} {
		got, e := booth.Read(text)
		fails(t, "a long one", got, e, api.ErrForm)
	}
}

func TestT1ReadForm(t *testing.T) {
	for _, text := range []string{
		"", "()", "(())", "6:ballot", "(6:ballot)", "0:", "(6:ballot3:ann)", "(6:ballot3:ann1:0)", "(6:ballot3:ann1:00:)", "(6:ballot3:ann())", "(6:ballot1:0())",
		"(6:ballot3:ann2:00())", "(6:ballot3:ann2:-1())", "(6:ballot3:ann0:())", "(6:ballot3:ann1:a())", "(6:ballot3:ann13:1099511627777())", "(6:ballot3:ann(1:0)())",
		"(6:ballot(3:ann)1:0())", "(6:Ballot3:ann1:0())", "(7:ballots3:ann1:0())", "((6:ballot)3:ann1:0())", "(8:manifest3:ann1:0())",
		"(6:ballot3:ann1:0()())", "(6:ballot3:ann1:0()0:)", "(6:ballot3:ann1:0(0:))", "(6:ballot3:ann1:0(()))", "(6:ballot3:ann1:0((()())))", "(6:ballot3:ann1:0((()()())))",
		smallWritten + "()", smallWritten + smallWritten, " " + smallWritten, smallWritten + " ", "(" + smallWritten + ")", smallWritten[1:], smallWritten[:len(smallWritten)-1],
	} {
		got, e := booth.Read(text)
		fails(t, short(text), got, e, api.ErrForm)
	}
}

// readsOnlyWritten: what is read is what is written of it; all else is told.
func readsOnlyWritten(t *testing.T, what, text string) (read bool) {
	t.Helper()
	b, e := booth.Read(text)
	if e != api.OK {
		fails(t, what, b, e, api.ErrForm)
		return false
	}
	if formModel(b) != text {
		t.Errorf("%s: it is read, but is not what is written of a ballot", what)
	}
	return true
}

// Every byte is left out, doubled and changed.
func TestT1ReadBytes(t *testing.T) {
	for _, right := range []string{smallWritten, formModel(real(t, town(api.Tiny), townChoices()))} {
		for i := range len(right) {
			readsOnlyWritten(t, fmt.Sprint("without byte ", i), right[:i]+right[i+1:])
			readsOnlyWritten(t, fmt.Sprint("byte twice ", i), right[:i]+right[i:i+1]+right[i:])
			for _, b := range "()0129:a\x00\x7f" {
				readsOnlyWritten(t, fmt.Sprintf("byte %d is %q", i, b), right[:i]+string(b)+right[i+1:])
				readsOnlyWritten(t, fmt.Sprintf("at %d also %q", i, b), right[:i]+string(b)+right[i:])
			}
		}
	}
}

// Every node is left out, doubled, changed about with the next one, put into a list, made a list or a leaf: some of that is
// written as another ballot is, the rest is not.
func TestT1ReadNodes(t *testing.T) {
	n, _ := wire.Parse(smallWritten)
	read, told := 0, 0
	otherNodes(n, func(other api.Node) {
		text, e := wire.Print(other)
		if e != api.OK {
			t.Fatal("a node can't be written", e)
		}
		if readsOnlyWritten(t, "other nodes", text) {
			read++
		} else {
			told++
		}
	})
	if read < 50 || told < 300 {
		t.Errorf("%d are read, %d are not", read, told)
	}
}

// otherNodes tells all nodes that come of one by one change.
func otherNodes(n api.Node, tell func(api.Node)) {
	for i := range n.List {
		with := func(nodes ...api.Node) api.Node {
			return api.Node{List: slices.Concat(n.List[:i], nodes, n.List[i+1:])}
		}
		inner := n.List[i]
		tell(with())
		tell(with(inner, inner))
		tell(with(api.Node{List: []api.Node{inner}}))
		tell(with(api.Node{}))
		tell(with(inner, api.Node{}))
		for _, s := range []string{"", "0", "00", "x"} {
			tell(with(api.Node{Leaf: true, Text: s}))
			tell(with(inner, api.Node{Leaf: true, Text: s}))
			tell(with(api.Node{Leaf: true, Text: s}, inner))
		}
		if i+1 < len(n.List) {
			tell(api.Node{List: slices.Concat(n.List[:i], []api.Node{n.List[i+1], inner}, n.List[i+2:])})
		}
		if !inner.Leaf {
			tell(api.Node{List: slices.Concat(n.List[:i], inner.List, n.List[i+1:])})
		}
		otherNodes(inner, func(other api.Node) { tell(with(other)) })
	}
}

func TestT1Code(t *testing.T) {
	d := dice()
	for range 200 {
		prev, b := anyText(d, 32), anyBallot(d)
		got, e := booth.Code(prev, b)
		same(t, "Code", got, e, codeModel(prev, b))
	}
	b := small()
	got, e := booth.Code(strings.Repeat("\x00", 32), b)
	same(t, "Code", got, e, codeModel(strings.Repeat("\x00", 32), b))
	wrong := small()
	wrong.Precinct = -1
	for _, size := range []int{0, 1, 31, 33, 64, 1 << 20} {
		prev := strings.Repeat("p", size)
		got, e := booth.Code(prev, b)
		fails(t, fmt.Sprint("behind a code of bytes: ", size), got, e, api.ErrForm)
		got, e = booth.Code(prev, wrong)
		fails(t, fmt.Sprint("without a precinct, behind a code of bytes: ", size), got, e, api.ErrForm)
	}
	got, e = booth.Code(strings.Repeat("p", 32), wrong)
	fails(t, "without a precinct", got, e, api.ErrRange)
}

// Another ballot, and another code ahead of it, has another code.
func TestT1CodesUnlike(t *testing.T) {
	var codes []string
	b := small()
	for _, prev := range []string{strings.Repeat("p", 32), strings.Repeat("p", 31) + "q"} {
		for _, voter := range []string{"ann", "anna", ""} {
			b.Voter = voter
			for b.Precinct = range 3 {
				if code, _ := booth.Code(prev, b); seen(&codes, code) {
					t.Errorf("%x comes again", code)
				}
			}
		}
	}
}

func TestE2FormRead(t *testing.T) {
	b := clone(small())
	onlyRead(t, "Form", b, func() { booth.Form(b) })
	onlyRead(t, "Code", b, func() { booth.Code(strings.Repeat("p", 32), b) })
	text := formModel(real(t, town(api.Tiny), townChoices()))
	first, _ := booth.Read(text)
	second, _ := booth.Read(text)
	apart(t, "what is read twice", first, second)
}
