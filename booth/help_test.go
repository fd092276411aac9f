package booth_test

import (
	"cmp"
	"fmt"
	"math/rand/v2"
	"reflect"
	"slices"
	"strconv"
	"strings"
	"testing"

	"hustings/api"
	"hustings/board"
	"hustings/booth"
	"hustings/group"
	"hustings/plain"
	"hustings/sigma"
)

// The edges of int.
const (
	least = -1 << 63
	most  = 1<<63 - 1
)

// dice is a row of numbers that is the same each time.
func dice() *rand.Rand { return rand.New(rand.NewPCG(10, 1)) }

// kinds runs a test for each kind.
func kinds(t *testing.T, do func(t *testing.T, kind int)) {
	for i, name := range []string{"Tiny", "Short", "Full"} {
		t.Run(name, func(t *testing.T) { do(t, i+1) })
	}
}

// public is the public key of a small secret.
func public(kind, secret int) string {
	s, _ := group.Number(kind, secret)
	p, _ := sigma.Public(kind, s)
	return p
}

// key is what the ballots of a town are hidden with.
func key(kind int) string { return public(kind, 99) }

// town is a manifest that nothing is wrong with: all four rules; its first and last precinct have one style.
func town(kind int) api.Manifest {
	return api.Manifest{
		Kind: kind,
		Name: "town",
		Contests: []api.Contest{
			{Name: "mayor", Options: []string{"ann", "bob", "cat"}, Rule: api.RulePlural, Seats: 1, Most: 2},
			{Name: "council", Options: []string{"x", "y", "z"}, Rule: api.RuleTransfer, Seats: 3},
			{Name: "parks", Options: []string{"ann", "x", "no", "yes"}, Rule: api.RuleApproval, Seats: 2},
			{Name: "bridge", Options: []string{"here", "there"}, Rule: api.RulePairs, Seats: 1},
		},
		Styles:    []api.Style{{Name: "all", Contests: []int{0, 1, 2, 3}}, {Name: "some", Contests: []int{1, 3}}, {Name: "ann", Contests: []int{2}}},
		Precincts: []api.Precinct{{Name: "north", Style: 0}, {Name: "south", Style: 2}, {Name: "all", Style: 1}, {Name: "town", Style: 0}},
		Trustees:  []string{public(kind, 11), public(kind, 12)},
		Need:      2,
		Mixes:     1,
		Registrar: public(kind, 77),
		Clerk:     public(kind, 78),
		Lots:      "lots",
	}
}

// townChoices are some that fit the first precinct of a town.
func townChoices() [][]int { return [][]int{{1, 0, 1}, {2, 0, 1}, {1, 1, 1, 1}, {0, 1}} }

// crowd is a manifest with ballots as great as they may be: all contests and options that there may be, all with ranks.
func crowd(kind int) api.Manifest {
	m := town(kind)
	m.Contests, m.Precincts = nil, m.Precincts[:1]
	m.Styles = []api.Style{{Name: "all"}}
	for i := range 16 {
		c := api.Contest{Name: strconv.Itoa(i), Rule: api.RuleTransfer, Seats: 1}
		for k := range 12 {
			c.Options = append(c.Options, strconv.Itoa(k))
		}
		m.Contests = append(m.Contests, c)
		m.Styles[0].Contests = append(m.Styles[0].Contests, i)
	}
	return m
}

// anyChoices are some that fit the ballot of a precinct.
func anyChoices(d *rand.Rand, m api.Manifest, precinct int) [][]int {
	var out [][]int
	for _, place := range m.Styles[m.Precincts[precinct].Style].Contests {
		out = append(out, anyChoice(d, m.Contests[place]))
	}
	return out
}

func anyChoice(d *rand.Rand, c api.Contest) []int {
	out := make([]int, len(c.Options))
	marks := d.IntN(len(out) + 1)
	if c.Rule == api.RulePlural {
		marks = d.IntN(c.Most + 1)
	}
	for i, option := range d.Perm(len(out))[:marks] {
		out[option] = 1
		if c.Rule == api.RuleTransfer || c.Rule == api.RulePairs {
			out[option] = 1 + i
		}
	}
	return out
}

// disk is one of zeros with room for so many codes.
func disk(codes int) *plain.Disk { return plain.NewDisk(2+(36*codes+63)/64, -1) }

// diskWith is one on which a ledger with these entries lies.
func diskWith(t *testing.T, entries ...string) *plain.Disk {
	t.Helper()
	d := plain.NewDisk(200, -1)
	l, e := board.Open(d)
	for _, entry := range entries {
		if e == api.OK {
			e = l.Add(entry)
		}
	}
	if e != api.OK {
		t.Fatal("a disk can't be filled", e)
	}
	return d
}

// opened is a booth of a town.
func opened(t *testing.T, kind int, d api.Disk) *booth.Booth {
	t.Helper()
	b, e := booth.Open(town(kind), key(kind), "one", "seed", d)
	if b == nil || e != api.OK {
		t.Fatal("Open", e)
	}
	return b
}

func roomy[T any](l []T) []T { return append(make([]T, 0, len(l)+5), l...) }

func roomyLists[T any](l [][]T) [][]T {
	l = roomy(l)
	for i := range l {
		l[i] = roomy(l[i])
	}
	return l
}

// clone is another ballot that shares no memory, with spare room behind its lists.
func clone(b api.Ballot) api.Ballot {
	b.Parts = roomy(b.Parts)
	for i, p := range b.Parts {
		p.Ciphers, p.Proofs, p.Sum = roomy(p.Ciphers), roomy(p.Proofs), cloneEither(p.Sum)
		for k := range p.Proofs {
			p.Proofs[k] = cloneEither(p.Proofs[k])
		}
		b.Parts[i] = p
	}
	return b
}

func cloneEither(p api.Either) api.Either {
	return api.Either{Challenges: roomy(p.Challenges), Answers: roomyLists(p.Answers)}
}

// cloneTown is another manifest that shares no memory, with spare room behind its lists.
func cloneTown(m api.Manifest) api.Manifest {
	m.Contests, m.Styles, m.Precincts, m.Trustees = roomy(m.Contests), roomy(m.Styles), roomy(m.Precincts), roomy(m.Trustees)
	for i := range m.Contests {
		m.Contests[i].Options = roomy(m.Contests[i].Options)
	}
	for i := range m.Styles {
		m.Styles[i].Contests = roomy(m.Styles[i].Contests)
	}
	return m
}

// memory is where a list lies, with its spare room.
type memory struct{ lo, hi uintptr }

// memories are those of all lists in a value.
func memories(v reflect.Value) []memory {
	var out []memory
	switch v.Kind() {
	case reflect.Struct:
		for i := range v.NumField() {
			out = append(out, memories(v.Field(i))...)
		}
	case reflect.Slice:
		if v.Cap() > 0 {
			out = append(out, memory{v.Pointer(), v.Pointer() + uintptr(v.Cap())*v.Type().Elem().Size()})
		}
		for i := range v.Len() {
			out = append(out, memories(v.Index(i))...)
		}
	}
	return out
}

// apart: no two lists of these values share memory, their spare room neither.
func apart(t *testing.T, what string, values ...any) {
	t.Helper()
	var all []memory
	for _, v := range values {
		all = append(all, memories(reflect.ValueOf(v))...)
	}
	slices.SortFunc(all, func(a, b memory) int { return cmp.Compare(a.lo, b.lo) })
	for i := 1; i < len(all); i++ {
		if all[i].lo < all[i-1].hi {
			t.Errorf("%s: two lists share memory", what)
			return
		}
	}
}

// deep is all that a value's lists have and what lies behind them, as a text.
func deep(v reflect.Value) string {
	var out strings.Builder
	switch v.Kind() {
	case reflect.Struct:
		for i := range v.NumField() {
			out.WriteString(deep(v.Field(i)) + ";")
		}
	case reflect.Slice:
		all := v.Slice3(0, v.Cap(), v.Cap())
		fmt.Fprintf(&out, "%d[", v.Len())
		for i := range all.Len() {
			out.WriteString(deep(all.Index(i)) + ",")
		}
		out.WriteString("]")
	default:
		fmt.Fprintf(&out, "%q", fmt.Sprint(v.Interface()))
	}
	return out.String()
}

// onlyRead: a call does not change what is handed in, nor what lies behind it.
func onlyRead(t *testing.T, what string, v any, call func()) {
	t.Helper()
	before := deep(reflect.ValueOf(v))
	call()
	if deep(reflect.ValueOf(v)) != before {
		t.Errorf("%s: what was handed in is changed", what)
	}
}

// same tells where something else comes than should.
func same[T any](t *testing.T, what string, got T, e api.Errno, want T) {
	t.Helper()
	if e != api.OK || !reflect.DeepEqual(got, want) {
		t.Errorf("%s: %s comes, error %d, not %s", what, short(got), e, short(want))
	}
}

// fails tells where an error is another one, or something comes beside it.
func fails[T any](t *testing.T, what string, got T, e api.Errno, want api.Errno) {
	t.Helper()
	var nothing T
	if e != want || !reflect.DeepEqual(got, nothing) {
		t.Errorf("%s: %s comes, error %d, not error %d alone", what, short(got), e, want)
	}
}

// tells tells where an error is another one.
func tells(t *testing.T, what string, e api.Errno, want api.Errno) {
	t.Helper()
	if e != want {
		t.Errorf("%s: error %d comes, not %d", what, e, want)
	}
}

// short is a value as a message can show it.
func short(v any) string {
	s := fmt.Sprintf("%+q", v)
	if len(s) > 300 {
		return s[:300] + ".."
	}
	return s
}

// anyText is some bytes. Those that are written between texts stand in it more often than by chance.
func anyText(d *rand.Rand, size int) string {
	b := make([]byte, size)
	for i := range b {
		b[i] = byte(d.IntN(256))
		if d.IntN(2) == 0 {
			b[i] = "()01:"[d.IntN(5)]
		}
	}
	return string(b)
}

// anyList is some of what is made again and again; nil, if there is none.
func anyList[T any](d *rand.Rand, one func() T) []T {
	var out []T
	for range d.IntN(4) {
		out = append(out, one())
	}
	return out
}

// anyBallot is some ballot, of any texts.
func anyBallot(d *rand.Rand) api.Ballot {
	text := func() string { return anyText(d, d.IntN(15)) }
	texts := func() []string { return anyList(d, text) }
	either := func() api.Either { return api.Either{Challenges: texts(), Answers: anyList(d, texts)} }
	cipher := func() api.Cipher { return api.Cipher{A: text(), B: text()} }
	part := func() api.Part {
		return api.Part{Ciphers: anyList(d, cipher), Proofs: anyList(d, either), Sum: either()}
	}
	return api.Ballot{Voter: text(), Precinct: d.IntN(1<<40+1) >> d.IntN(41), Parts: anyList(d, part)}
}

// seen tells whether a text is there already, and puts it there.
func seen(texts *[]string, text string) bool {
	if slices.Contains(*texts, text) {
		return true
	}
	*texts = append(*texts, text)
	return false
}
