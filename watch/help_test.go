package watch_test

import (
	"cmp"
	"fmt"
	"math/rand/v2"
	"reflect"
	"slices"
	"strconv"
	"strings"
	"testing"

	"hustings/api"
	"hustings/ballot"
	"hustings/board"
	"hustings/booth"
	"hustings/fold"
	"hustings/group"
	"hustings/mix"
	"hustings/plain"
	"hustings/roll"
	"hustings/sigma"
	"hustings/tally"
	"hustings/trust"
	"hustings/watch"
)

// The edges of int.
const (
	least = -1 << 63
	most  = 1<<63 - 1
)

// dice is a row of numbers that is the same each time.
func dice(seed uint64) *rand.Rand { return rand.New(rand.NewPCG(15, seed)) }

// kinds runs a test for each kind.
func kinds(t *testing.T, do func(t *testing.T, kind int)) {
	for i, name := range []string{"Tiny", "Short", "Full"} {
		t.Run(name, func(t *testing.T) { do(t, i+1) })
	}
}

// scalar is a small number as one.
func scalar(kind, n int) string {
	s, _ := group.Number(kind, n)
	return s
}

// public is the public key of a small secret.
func public(kind, secret int) string {
	p, _ := sigma.Public(kind, scalar(kind, secret))
	return p
}

// four is a number as four bytes.
func four(n int) string {
	return string([]byte{byte(n >> 24), byte(n >> 16), byte(n >> 8), byte(n)})
}

// The secrets of those who keep an election.
const (
	registrar = 77
	clerk     = 78
)

// town is an election, and what its trustees know.
type town struct {
	m       api.Manifest
	secrets []string
	key     string
	digest  string
}

// townOf is one with all four rules, where two of three trustees are needed; edit makes another one of it.
func townOf(kind int, edit func(m *api.Manifest)) town {
	m := api.Manifest{
		Kind: kind,
		Name: "town",
		Contests: []api.Contest{
			{Name: "mayor", Options: []string{"ann", "bob", "cat"}, Rule: api.RulePlural, Seats: 1, Most: 2},
			{Name: "council", Options: []string{"x", "y", "z"}, Rule: api.RuleTransfer, Seats: 2},
			{Name: "parks", Options: []string{"no", "yes"}, Rule: api.RuleApproval, Seats: 1},
			{Name: "bridge", Options: []string{"here", "there"}, Rule: api.RulePairs, Seats: 1},
		},
		Styles:    []api.Style{{Name: "all", Contests: []int{0, 1, 2, 3}}, {Name: "some", Contests: []int{1, 2}}, {Name: "last", Contests: []int{3}}},
		Precincts: []api.Precinct{{Name: "north", Style: 0}, {Name: "south", Style: 1}, {Name: "west", Style: 2}, {Name: "east", Style: 1}},
		Need:      2,
		Mixes:     1,
		Registrar: public(kind, registrar),
		Clerk:     public(kind, clerk),
		Lots:      "lots",
	}
	m.Trustees = make([]string, 3)
	if edit != nil {
		edit(&m)
	}
	d, e := trust.Deal(kind, m.Need, len(m.Trustees), "deal")
	if e != api.OK {
		panic(e)
	}
	for i, s := range d.Shares {
		m.Trustees[i], _ = sigma.Public(kind, s)
	}
	digest, e := roll.Digest(m)
	if e != api.OK {
		panic(e)
	}
	return town{m, d.Shares, d.Commits[0], digest}
}

// plainTown is one with marks alone, and one precinct.
func plainTown(kind int, edit func(m *api.Manifest)) town {
	return townOf(kind, func(m *api.Manifest) {
		m.Contests = m.Contests[2:3]
		m.Styles = []api.Style{{Name: "all", Contests: []int{0}}}
		m.Precincts = m.Precincts[:1]
		if edit != nil {
			edit(m)
		}
	})
}

// thing is what an entry says: kind is its leaf.
type thing struct {
	kind    string
	m       api.Manifest
	change  api.Change
	stamp   api.Stamp
	cast    api.Cast
	opening api.Opening
	contest int
	mixed   api.Mixed
	which   int
	share   api.Share
}

// form writes a thing, as package watch does it.
func (x thing) form() (string, api.Errno) {
	switch x.kind {
	case "manifest":
		return roll.Form(x.m)
	case "change":
		return watch.FormChange(x.change)
	case "open", "close":
		return watch.FormPolls(x.kind == "open", x.stamp)
	case "cast":
		return watch.FormCast(x.cast)
	case "opened":
		return watch.FormOpened(x.opening)
	case "mix":
		return watch.FormMix(x.contest, x.mixed)
	}
	return watch.FormShare(x.which, x.share)
}

// joins is the n-th change: somebody comes to stand on the roll, with a small secret.
func (a town) joins(n int, id string, precinct, secret int) thing {
	return a.changes(n, api.Change{Do: api.ChangeJoin, Id: id, Precinct: precinct, Key: public(a.m.Kind, secret)})
}

func (a town) changes(n int, c api.Change) thing {
	c, e := roll.Sign(a.m, n, c, scalar(a.m.Kind, registrar), "seed")
	if e != api.OK {
		panic(e)
	}
	return thing{kind: "change", change: c}
}

// polls opens or closes the polls, at a head.
func (a town) polls(kind string, size int, head string) thing {
	s, e := board.Sign(a.m.Kind, scalar(a.m.Kind, clerk), a.digest, size, head, "seed")
	if e != api.OK {
		panic(e)
	}
	return thing{kind: kind, stamp: s}
}

// filled is a ballot behind a code, and what shows what it was made of.
func (a town) filled(id string, precinct int, choices [][]int, prev, seed string) (api.Cast, api.Opening) {
	b, e := ballot.Fill(a.m, a.key, id, precinct, choices, seed)
	if e != api.OK {
		panic(e)
	}
	code, _ := booth.Code(prev, b)
	return api.Cast{Ballot: b, Prev: prev, Code: code},
		api.Opening{Voter: id, Precinct: precinct, Choices: choices, Seed: seed, Prev: prev, Code: code}
}

// prev is a code that a ballot can stand behind.
func prev(n int) string { return fold.Digest(strconv.Itoa(n)) }

// signed signs a ballot that is cast.
func (a town) signed(c api.Cast, secret int) thing {
	c, e := watch.SignCast(a.m, c, scalar(a.m.Kind, secret), "seed")
	if e != api.OK {
		panic(e)
	}
	return thing{kind: "cast", cast: c}
}

// casts is a ballot that somebody casts.
func (a town) casts(id string, precinct, secret int, choices [][]int, n int) thing {
	c, _ := a.filled(id, precinct, choices, prev(n), fmt.Sprint("seed ", n))
	return a.signed(c, secret)
}

// opens shows a ballot.
func (a town) opens(id string, precinct int, choices [][]int, n int) thing {
	_, o := a.filled(id, precinct, choices, prev(n), fmt.Sprint("seed ", n))
	return thing{kind: "opened", opening: o}
}

// mixes is the next mix, in some order.
func (a town) mixes(d *rand.Rand, w *watch.Watcher) thing {
	contest, label, rows, e := w.Next()
	if e != api.OK {
		panic(e)
	}
	crossed, _ := mix.Route(d.Perm(len(rows)))
	x, e := mix.Mix(a.m.Kind, a.key, label, rows, crossed, label)
	if e != api.OK {
		panic(e)
	}
	return thing{kind: "mix", contest: contest, mixed: x}
}

// shares is a trustee's share of a cipher.
func (a town) shares(w *watch.Watcher, which, trustee int) thing {
	s, e := tally.Share(a.m, w.Label(which), trustee, a.secrets[trustee-1], w.Wanted()[which], "seed")
	if e != api.OK {
		panic(e)
	}
	return thing{kind: "share", which: which, share: s}
}

// anyChoices are some that fit the ballot of a precinct.
func anyChoices(d *rand.Rand, m api.Manifest, precinct int) [][]int {
	var out [][]int
	for _, place := range m.Styles[m.Precincts[precinct].Style].Contests {
		out = append(out, anyChoice(d, m.Contests[place]))
	}
	return out
}

func anyChoice(d *rand.Rand, c api.Contest) []int {
	out := make([]int, len(c.Options))
	marks := d.IntN(len(out) + 1)
	if c.Rule == api.RulePlural {
		marks = d.IntN(c.Most + 1)
	}
	for i, option := range d.Perm(len(out))[:marks] {
		out[option] = 1
		if c.Rule == api.RuleTransfer || c.Rule == api.RulePairs {
			out[option] = 1 + i
		}
	}
	return out
}

// scene is a watcher, and a second one that is written after the document's words: both see the same.
type scene struct {
	town
	t     *testing.T
	w     *watch.Watcher
	model model
	d     *rand.Rand
}

func sceneOf(t *testing.T, a town) *scene { return &scene{a, t, watch.New(), model{}, dice(1)} }

// sees: a thing comes, and this errno is told of it.
func (s *scene) sees(x thing, want api.Errno) {
	s.t.Helper()
	if e := s.see(x); e != want {
		s.t.Errorf("%s: error %d comes, not %d", x.kind, e, want)
	}
}

// see shows a thing to both.
func (s *scene) see(x thing) api.Errno {
	s.t.Helper()
	text, e := x.form()
	if e != api.OK {
		s.t.Fatalf("%s can't be written: error %d", x.kind, e)
	}
	e = s.w.See(text)
	if want := s.model.see(x, text); e != want {
		s.t.Errorf("%s: error %d comes, not %d", x.kind, e, want)
	}
	s.agree()
	return e
}

// agree: all that the watcher tells is what the model tells.
func (s *scene) agree() {
	s.t.Helper()
	size, head := s.w.Head()
	wantSize, wantHead := s.model.head()
	if s.w.Phase() != s.model.phase() || size != wantSize || head != wantHead {
		s.t.Errorf("phase %d, head %d %x come, not %d, %d %x", s.w.Phase(), size, head, s.model.phase(), wantSize, wantHead)
	}
	contest, label, rows, e := s.w.Next()
	alike(s.t, "Next", []any{contest, label, rows, e}, s.model.next())
	alike(s.t, "Wanted", s.w.Wanted(), s.model.wantedCiphers())
	labels := s.model.labels()
	for i, label := range labels {
		alike(s.t, "Label", s.w.Label(i), label)
	}
	for _, none := range []int{-1, len(labels), len(labels) + 1, 1 << 32, least, most} {
		alike(s.t, "Label", s.w.Label(none), "")
	}
	out, e := s.w.Outcome()
	want, wantE := s.model.outcome()
	alike(s.t, "Outcome", []any{out, e}, []any{want, wantE})
}

// begins goes on up to the opening of the polls: so many voters, whose ids and secrets are their numbers, in the precincts
// one behind the other.
func (s *scene) begins(voters int) {
	s.t.Helper()
	s.sees(thing{kind: "manifest", m: s.m}, api.OK)
	for i := range voters {
		s.sees(s.joins(i, voterId(i), s.precinctOf(i), voterSecret(i)), api.OK)
	}
	s.opensPolls()
}

func voterId(i int) string { return "v" + strconv.Itoa(i) }

func voterSecret(i int) int { return 100 + i }

func (s *scene) precinctOf(i int) int { return i % len(s.m.Precincts) }

func (s *scene) opensPolls() {
	s.t.Helper()
	s.sees(s.pollsNow("open"), api.OK)
}

func (s *scene) closesPolls() {
	s.t.Helper()
	s.sees(s.pollsNow("close"), api.OK)
}

func (s *scene) pollsNow(kind string) thing {
	size, head := s.w.Head()
	return s.polls(kind, size, head)
}

// vote is a ballot of the i-th voter; n is another number for each.
func (s *scene) vote(i, n int, choices [][]int) thing {
	return s.casts(voterId(i), s.precinctOf(i), voterSecret(i), choices, n)
}

// ends mixes and opens all that is to be.
func (s *scene) ends() {
	s.t.Helper()
	for s.w.Phase() == api.PhaseMix {
		s.sees(s.mixes(s.d, s.w), api.OK)
	}
	for i := range s.w.Wanted() {
		for _, k := range s.d.Perm(len(s.m.Trustees))[:s.m.Need] {
			s.sees(s.shares(s.w, i, k+1), api.OK)
		}
	}
	if s.w.Phase() != api.PhaseDone {
		s.t.Errorf("phase %d comes in the end", s.w.Phase())
	}
}

// alike tells where something else comes than should; lists without entries are alike.
func alike(t *testing.T, what string, got, want any) {
	t.Helper()
	if g, w := told(reflect.ValueOf(got)), told(reflect.ValueOf(want)); g != w {
		t.Errorf("%s: %s comes, not %s", what, clipped(g), clipped(w))
	}
}

// told is a value as a text.
func told(v reflect.Value) string {
	switch v.Kind() {
	case reflect.Interface:
		return told(v.Elem())
	case reflect.Struct:
		var out []string
		for i := range v.NumField() {
			out = append(out, told(v.Field(i)))
		}
		return "{" + strings.Join(out, " ") + "}"
	case reflect.Slice, reflect.Array:
		var out []string
		for i := range v.Len() {
			out = append(out, told(v.Index(i)))
		}
		return "[" + strings.Join(out, " ") + "]"
	case reflect.String:
		return fmt.Sprintf("%q", v.String())
	}
	return fmt.Sprint(v)
}

func clipped(s string) string {
	if len(s) > 300 {
		return s[:300] + ".."
	}
	return s
}

// memory is where a list lies, with its spare room.
type memory struct{ lo, hi uintptr }

// memories are those of all lists in a value.
func memories(v reflect.Value) []memory {
	var out []memory
	switch v.Kind() {
	case reflect.Struct:
		for i := range v.NumField() {
			out = append(out, memories(v.Field(i))...)
		}
	case reflect.Array:
		for i := range v.Len() {
			out = append(out, memories(v.Index(i))...)
		}
	case reflect.Slice:
		if v.Cap() > 0 {
			out = append(out, memory{v.Pointer(), v.Pointer() + uintptr(v.Cap())*v.Type().Elem().Size()})
		}
		for i := range v.Len() {
			out = append(out, memories(v.Index(i))...)
		}
	}
	return out
}

// apart: no two lists of these values share memory, their spare room neither.
func apart(t *testing.T, what string, values ...any) {
	t.Helper()
	var all []memory
	for _, v := range values {
		all = append(all, memories(reflect.ValueOf(v))...)
	}
	slices.SortFunc(all, func(a, b memory) int { return cmp.Compare(a.lo, b.lo) })
	for i := 1; i < len(all); i++ {
		if all[i].lo < all[i-1].hi {
			t.Errorf("%s: two lists share memory", what)
			return
		}
	}
}

// spoil writes over all lists of a value, and over what lies behind them.
func spoil(v reflect.Value) {
	switch v.Kind() {
	case reflect.Struct:
		for i := range v.NumField() {
			spoil(v.Field(i))
		}
	case reflect.Array:
		for i := range v.Len() {
			spoil(v.Index(i))
		}
	case reflect.Slice:
		all := v.Slice3(0, v.Cap(), v.Cap())
		for i := range all.Len() {
			spoil(all.Index(i))
			x := all.Index(i)
			switch x.Kind() {
			case reflect.String:
				x.SetString("spoiled")
			case reflect.Int:
				x.SetInt(-7)
			default:
				x.SetZero()
			}
		}
	}
}

// deep is all that a value's lists have and what lies behind them, as a text.
func deep(v reflect.Value) string {
	var out strings.Builder
	switch v.Kind() {
	case reflect.Struct:
		for i := range v.NumField() {
			out.WriteString(deep(v.Field(i)) + ";")
		}
	case reflect.Array:
		for i := range v.Len() {
			out.WriteString(deep(v.Index(i)) + ",")
		}
	case reflect.Slice:
		all := v.Slice3(0, v.Cap(), v.Cap())
		fmt.Fprintf(&out, "%d[", v.Len())
		for i := range all.Len() {
			out.WriteString(deep(all.Index(i)) + ",")
		}
		out.WriteString("]")
	default:
		fmt.Fprintf(&out, "%q", fmt.Sprint(v))
	}
	return out.String()
}

// roomy is another value that shares no memory, with spare room behind its lists.
func roomy[T any](x T) T {
	v := reflect.New(reflect.TypeFor[T]()).Elem()
	v.Set(reflect.ValueOf(x))
	room(v)
	return v.Interface().(T)
}

func room(v reflect.Value) {
	switch v.Kind() {
	case reflect.Struct:
		for i := range v.NumField() {
			room(v.Field(i))
		}
	case reflect.Array:
		for i := range v.Len() {
			room(v.Index(i))
		}
	case reflect.Slice:
		l := reflect.MakeSlice(v.Type(), v.Len(), v.Len()+3)
		reflect.Copy(l, v)
		v.Set(l)
		for i := range v.Len() {
			room(v.Index(i))
		}
	}
}

// newDisk is one with room for some codes.
func newDisk() api.Disk { return plain.NewDisk(100, -1) }
