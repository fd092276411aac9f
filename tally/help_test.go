package tally_test

import (
	"fmt"
	"math/big"
	"math/rand/v2"
	"reflect"
	"slices"
	"strings"
	"testing"

	"hustings/api"
)

// The edges of int.
const (
	least = -1 << 63
	most  = 1<<63 - 1
)

// dice is a row of numbers that is the same each time.
func dice() *rand.Rand { return rand.New(rand.NewPCG(12, 1)) }

// ring is what the document's table says of a kind, and what is reckoned with it by math/big.
type ring struct {
	kind, size   int
	order, prime *big.Int
}

// ringOf is that of a kind.
func ringOf(kind int) ring {
	h := new(big.Int).Lsh(big.NewInt(1), 125)
	h.Add(h, big.NewInt(9087))
	switch kind {
	case api.Tiny:
		return newRing(kind, big.NewInt(5), 7, 2)
	case api.Short:
		return newRing(kind, big.NewInt(268437635), 31, 8)
	}
	return newRing(kind, h, 127, 32)
}

func newRing(kind int, h *big.Int, k uint, size int) ring {
	order := new(big.Int).Lsh(h, k)
	order.Add(order, big.NewInt(1))
	prime := new(big.Int).Lsh(order, 1)
	prime.Add(prime, big.NewInt(1))
	return ring{kind, size, order, prime}
}

// text is a number in as many bytes as the kind has.
func (r ring) text(n *big.Int) string { return string(n.FillBytes(make([]byte, r.size))) }

// small is a small number in bytes, last the greatest scalar.
func (r ring) small(n int64) string { return r.text(big.NewInt(n)) }

func (r ring) last() string { return r.text(new(big.Int).Sub(r.order, big.NewInt(1))) }

// number is bytes as a number.
func number(b string) *big.Int { return new(big.Int).SetBytes([]byte(b)) }

// scalar is a number modulo ORDER.
func (r ring) scalar(n *big.Int) string { return r.text(new(big.Int).Mod(n, r.order)) }

func (r ring) add(a, b string) string { return r.scalar(new(big.Int).Add(number(a), number(b))) }

// elem is a number as the element that it is.
func (r ring) elem(n *big.Int) string {
	c := new(big.Int).Mod(n, r.prime)
	if c.Cmp(r.order) > 0 {
		c.Sub(r.prime, c)
	}
	return r.text(c)
}

func (r ring) times(a, b string) string { return r.elem(new(big.Int).Mul(number(a), number(b))) }

func (r ring) over(a, b string) string {
	return r.elem(new(big.Int).Mul(number(a), new(big.Int).ModInverse(number(b), r.prime)))
}

func (r ring) power(a, n string) string {
	return r.elem(new(big.Int).Exp(number(a), number(n), r.prime))
}

// raised is BASE to a scalar.
func (r ring) raised(n string) string { return r.power(r.small(2), n) }

// any is a scalar that is an element too.
func (r ring) any(d *rand.Rand) string {
	b := make([]byte, r.size+8)
	for i := range b {
		b[i] = byte(d.IntN(256))
	}
	n := new(big.Int).Mod(number(string(b)), new(big.Int).Sub(r.order, big.NewInt(1)))
	return r.text(n.Add(n, big.NewInt(1)))
}

// anyOnes are so many of them.
func (r ring) anyOnes(d *rand.Rand, n int) []string {
	var out []string
	for range n {
		out = append(out, r.any(d))
	}
	return out
}

// noScalars are texts that are none.
func (r ring) noScalars() []string {
	return []string{
		"", "\x01", r.text(r.order), r.text(r.prime), strings.Repeat("\xff", r.size), r.small(1) + "\x00", "\x00" + r.small(1),
		r.small(1)[1:], strings.Repeat("\x00", 4000),
	}
}

// noElems are texts that are none.
func (r ring) noElems() []string {
	return []string{
		"", "\x01", r.small(0), r.text(new(big.Int).Add(r.order, big.NewInt(1))), r.text(r.prime), strings.Repeat("\xff", r.size),
		r.small(1) + "\x00", "\x00" + r.small(1), r.small(1)[1:], strings.Repeat("\x01", 4000),
	}
}

// kinds runs a test for each kind.
func kinds(t *testing.T, do func(t *testing.T, r ring)) {
	for i, name := range []string{"Tiny", "Short", "Full"} {
		t.Run(name, func(t *testing.T) { do(t, ringOf(i+1)) })
	}
}

// sizes goes through all numbers of trustees, and of those who are needed.
func sizes(do func(need, of int)) {
	for of := 1; of <= 8; of++ {
		for need := 1; need <= of; need++ {
			do(need, of)
		}
	}
}

// value is that of a polynomial at x.
func (r ring) value(coefficients []string, x int) string {
	sum := new(big.Int)
	for _, c := range slices.Backward(coefficients) {
		sum.Add(sum.Mul(sum, big.NewInt(int64(x))), number(c))
	}
	return r.scalar(sum)
}

// town is an election, and what its trustees know.
type town struct {
	ring
	m       api.Manifest
	secrets []string
	key     string // by which things are hidden
}

// townOf is one that needs so many trustees, whose secrets are given.
func (r ring) townOf(need int, secrets []string) town {
	m := api.Manifest{
		Kind: r.kind,
		Name: "town",
		Contests: []api.Contest{
			{Name: "mayor", Options: []string{"ann", "bob", "cat"}, Rule: api.RulePlural, Seats: 1, Most: 2},
			{Name: "parks", Options: []string{"yes"}, Rule: api.RuleApproval, Seats: 1},
		},
		Styles:    []api.Style{{Name: "all", Contests: []int{0, 1}}},
		Precincts: []api.Precinct{{Name: "north", Style: 0}},
		Need:      need,
		Registrar: r.small(3),
		Clerk:     r.small(5),
	}
	for _, s := range secrets {
		m.Trustees = append(m.Trustees, r.raised(s))
	}
	return town{r, m, secrets, r.small(1)}
}

// dealt is one whose trustees have the values of a polynomial: as many are needed as it has coefficients.
func (r ring) dealt(of int, coefficients []string) town {
	var secrets []string
	for x := range of {
		secrets = append(secrets, r.value(coefficients, x+1))
	}
	t := r.townOf(len(coefficients), secrets)
	t.key = r.raised(coefficients[0])
	return t
}

// anyTown is some of these.
func (r ring) anyTown(d *rand.Rand, need, of int) town { return r.dealt(of, r.anyOnes(d, need)) }

// hide hides a scalar.
func (t town) hide(x, nonce string) api.Cipher {
	return api.Cipher{A: t.raised(nonce), B: t.times(t.raised(x), t.power(t.key, nonce))}
}

// cloneManifest is another one that shares no memory but of what nobody here changes, with spare room behind the trustees.
func cloneManifest(m api.Manifest) api.Manifest {
	m.Trustees = roomy(m.Trustees)
	m.Contests = roomy(m.Contests)
	m.Styles = roomy(m.Styles)
	m.Precincts = roomy(m.Precincts)
	return m
}

// cloneShares are other ones that share no memory, with spare room behind all lists.
func cloneShares(l []api.Share) []api.Share {
	l = roomy(l)
	for i := range l {
		l[i].Proof.Answers = roomy(l[i].Proof.Answers)
	}
	return l
}

func roomy[T any](l []T) []T { return append(make([]T, 0, len(l)+5), l...) }

// manifestFault is something that is wrong with a manifest.
type manifestFault struct {
	name string
	e    api.Errno
	do   func(m *api.Manifest)
}

// manifestFaults are some of each errno.
func manifestFaults(r ring) []manifestFault {
	out := []manifestFault{
		{"nine trustees", api.ErrLong, func(m *api.Manifest) { m.Trustees = slices.Repeat([]string{r.small(2)}, 9) }},
		{"a long name", api.ErrLong, func(m *api.Manifest) { m.Name = strings.Repeat("e", 33) }},
		{"long lots", api.ErrLong, func(m *api.Manifest) { m.Lots = strings.Repeat("e", 65) }},
		{"no trustees", api.ErrForm, func(m *api.Manifest) { m.Trustees = nil }},
		{"no contests", api.ErrForm, func(m *api.Manifest) { m.Contests = nil }},
		{"no name", api.ErrForm, func(m *api.Manifest) { m.Name = "" }},
		{"mixes", api.ErrRange, func(m *api.Manifest) { m.Mixes = 9 }},
		{"a style", api.ErrRange, func(m *api.Manifest) { m.Precincts[0].Style = 1 }},
		{"names", api.ErrTwice, func(m *api.Manifest) { m.Contests[1].Name = m.Contests[0].Name }},
		{"registrar", api.ErrElem, func(m *api.Manifest) { m.Registrar = r.small(0) }},
		{"clerk", api.ErrElem, func(m *api.Manifest) { m.Clerk = "" }},
	}
	for _, none := range []int{0, -1, 4, 257, least, most} {
		out = append(out, manifestFault{fmt.Sprint("kind ", none), api.ErrKind, func(m *api.Manifest) { m.Kind = none }})
	}
	for _, more := range []int{-1, 0, 9, 1 << 32, least, most} {
		out = append(out, manifestFault{fmt.Sprint("need ", more), api.ErrRange, func(m *api.Manifest) { m.Need = more }})
	}
	for _, none := range r.noElems() {
		out = append(out,
			manifestFault{"the first trustee", api.ErrElem, func(m *api.Manifest) { m.Trustees[0] = none }},
			manifestFault{"the last trustee", api.ErrElem, func(m *api.Manifest) { m.Trustees[len(m.Trustees)-1] = none }})
	}
	return out
}

// fault is something that is wrong with what is handed in. What has a lower rank is told ahead of others.
type fault[T any] struct {
	name string
	rank int
	e    api.Errno
	do   func(a *T)
}

// inManifest are the faults of a manifest that stands in what is handed in.
func inManifest[T any](r ring, rank int, at func(a *T) *api.Manifest) []fault[T] {
	var out []fault[T]
	for _, f := range manifestFaults(r) {
		out = append(out, fault[T]{f.name, rank, f.e, func(a *T) { f.do(at(a)) }})
	}
	return out
}

// wrongOnes hands out each fault by itself, and each with each one of another rank, with the errno that is to be told. The one
// that is told ahead is done last: so it lasts.
func wrongOnes[T any](all []fault[T], tell func(name string, do func(a *T), e api.Errno)) {
	for _, a := range all {
		tell(a.name, a.do, a.e)
		for _, b := range all {
			if a.rank < b.rank {
				tell(a.name+", "+b.name, func(x *T) { b.do(x); a.do(x) }, a.e)
			}
		}
	}
}

// same tells where something else comes than should.
func same[T any](t *testing.T, what string, got T, e api.Errno, want T) {
	t.Helper()
	if e != api.OK || !reflect.DeepEqual(got, want) {
		t.Errorf("%s: %s comes, error %d, not %s", what, short(got), e, short(want))
	}
}

// fails tells where an error is another one, or something comes beside it.
func fails(t *testing.T, what string, nothing bool, e api.Errno, want api.Errno) {
	t.Helper()
	if !nothing || e != want {
		t.Errorf("%s: error %d comes, not %d (nothing beside it: %t)", what, e, want, nothing)
	}
}

// agrees tells where what comes, and its error, are not those that should.
func agrees[T any](t *testing.T, what string, got T, e api.Errno, want T, wantE api.Errno) {
	t.Helper()
	if e != wantE || !reflect.DeepEqual(got, want) {
		t.Errorf("%s: %s comes, error %d, not %s, error %d", what, short(got), e, short(want), wantE)
	}
}

// holds tells where something is not as it should be.
func holds(t *testing.T, what string, got, want bool) {
	t.Helper()
	if got != want {
		t.Errorf("%s: %t comes", what, got)
	}
}

// short is a value as a message can show it.
func short(v any) string {
	s := fmt.Sprintf("%+q", v)
	if len(s) > 300 {
		return s[:300] + ".."
	}
	return s
}

// noShare tells whether nothing is in it.
func noShare(s api.Share) bool {
	return s.Trustee == 0 && s.Value == "" && s.Proof.Challenge == "" && len(s.Proof.Answers) == 0
}
