package ballot_test

import (
	"fmt"
	"math/big"
	"math/rand/v2"
	"reflect"
	"slices"
	"strconv"
	"strings"
	"testing"

	"hustings/api"
)

// The edges of int.
const (
	least = -1 << 63
	most  = 1<<63 - 1
)

// dice is a row of numbers that is the same each time.
func dice() *rand.Rand { return rand.New(rand.NewPCG(9, 1)) }

// ring is what the document's table says of a kind, and what is reckoned with it by math/big.
type ring struct {
	kind, size   int
	order, prime *big.Int
}

// ringOf is that of a kind.
func ringOf(kind int) ring {
	h := new(big.Int).Lsh(big.NewInt(1), 125)
	h.Add(h, big.NewInt(9087))
	switch kind {
	case api.Tiny:
		return newRing(kind, big.NewInt(5), 7, 2)
	case api.Short:
		return newRing(kind, big.NewInt(268437635), 31, 8)
	}
	return newRing(kind, h, 127, 32)
}

func newRing(kind int, h *big.Int, k uint, size int) ring {
	order := new(big.Int).Lsh(h, k)
	order.Add(order, big.NewInt(1))
	prime := new(big.Int).Lsh(order, 1)
	prime.Add(prime, big.NewInt(1))
	return ring{kind, size, order, prime}
}

// text is a number in as many bytes as the kind has.
func (r ring) text(n *big.Int) string { return string(n.FillBytes(make([]byte, r.size))) }

// small is a small number in bytes.
func (r ring) small(n int64) string { return r.text(big.NewInt(n)) }

// number is bytes as a number.
func number(b string) *big.Int { return new(big.Int).SetBytes([]byte(b)) }

func (r ring) add(a, b string) string {
	n := new(big.Int).Add(number(a), number(b))
	return r.text(n.Mod(n, r.order))
}

// elem is a number as the element that it is.
func (r ring) elem(n *big.Int) string {
	c := new(big.Int).Mod(n, r.prime)
	if c.Cmp(r.order) > 0 {
		c.Sub(r.prime, c)
	}
	return r.text(c)
}

func (r ring) times(a, b string) string { return r.elem(new(big.Int).Mul(number(a), number(b))) }

func (r ring) over(a, b string) string {
	return r.elem(new(big.Int).Mul(number(a), new(big.Int).ModInverse(number(b), r.prime)))
}

func (r ring) power(a, n string) string {
	return r.elem(new(big.Int).Exp(number(a), number(n), r.prime))
}

// any is a scalar that is an element too.
func (r ring) any(d *rand.Rand) string {
	b := make([]byte, r.size+8)
	for i := range b {
		b[i] = byte(d.IntN(256))
	}
	n := new(big.Int).Mod(number(string(b)), new(big.Int).Sub(r.order, big.NewInt(1)))
	return r.text(n.Add(n, big.NewInt(1)))
}

// anyCipher is one of any elements.
func (r ring) anyCipher(d *rand.Rand) api.Cipher { return api.Cipher{A: r.any(d), B: r.any(d)} }

// noScalars are texts that are none.
func (r ring) noScalars() []string {
	return []string{
		"", "\x01", r.text(r.order), r.text(r.prime), strings.Repeat("\xff", r.size), r.small(1) + "\x00", "\x00" + r.small(1),
		r.small(1)[1:], strings.Repeat("\x00", 4000),
	}
}

// noElems are texts that are none.
func (r ring) noElems() []string {
	return []string{
		"", "\x01", r.small(0), r.text(new(big.Int).Add(r.order, big.NewInt(1))), r.text(r.prime), strings.Repeat("\xff", r.size),
		r.small(1) + "\x00", "\x00" + r.small(1), r.small(1)[1:], strings.Repeat("\x01", 4000),
	}
}

// kinds runs a test for each kind.
func kinds(t *testing.T, do func(t *testing.T, r ring)) {
	for i, name := range []string{"Tiny", "Short", "Full"} {
		t.Run(name, func(t *testing.T) { do(t, ringOf(i+1)) })
	}
}

// noKinds are numbers that are none.
func noKinds() []int { return []int{0, -1, 4, 9, 257, 258, 259, least, most} }

// secret is a number that only some know, public its public key.
func (r ring) secret() string { return r.text(new(big.Int).Sub(r.order, big.NewInt(77))) }

func (r ring) public() string { return r.power(r.small(2), r.secret()) }

// town is a manifest that nothing is wrong with: all four rules, and contests whose places are not those on the ballot.
func (r ring) town() api.Manifest {
	key := r.power(r.small(2), r.small(11))
	return api.Manifest{
		Kind: r.kind,
		Name: "town",
		Contests: []api.Contest{
			{Name: "mayor", Options: []string{"ann", "bob", "cat"}, Rule: api.RulePlural, Seats: 1, Most: 2},
			{Name: "council", Options: []string{"x", "y", "z"}, Rule: api.RuleTransfer, Seats: 3},
			{Name: "parks", Options: []string{"ann", "x", "no", "yes"}, Rule: api.RuleApproval, Seats: 2},
			{Name: "bridge", Options: []string{"here", "there"}, Rule: api.RulePairs, Seats: 1},
		},
		Styles:    []api.Style{{Name: "all", Contests: []int{0, 1, 2, 3}}, {Name: "some", Contests: []int{1, 3}}, {Name: "ann", Contests: []int{2}}},
		Precincts: []api.Precinct{{Name: "north", Style: 0}, {Name: "south", Style: 2}, {Name: "all", Style: 1}, {Name: "town", Style: 0}},
		Trustees:  []string{key, r.public()},
		Need:      2,
		Mixes:     1,
		Registrar: key,
		Clerk:     key,
		Lots:      "lots",
	}
}

// townChoices are some that fit the first precinct of a town.
func townChoices() [][]int { return [][]int{{1, 0, 1}, {2, 0, 1}, {1, 1, 1, 1}, {0, 1}} }

// crowd is a manifest with one ballot on which as many contests of one rule stand as may, with as many options.
func (r ring) crowd(rule int) api.Manifest {
	m := r.town()
	m.Contests, m.Styles, m.Precincts = nil, nil, nil
	for i := range 16 {
		c := api.Contest{Name: strconv.Itoa(i), Rule: rule, Seats: 1}
		if rule == api.RulePlural {
			c.Most = 12
		}
		for k := range 12 {
			c.Options = append(c.Options, strconv.Itoa(k))
		}
		m.Contests = append(m.Contests, c)
	}
	m.Styles = []api.Style{{Name: "all", Contests: []int{0, 1, 2, 3, 4, 5, 6, 7, 8, 9, 10, 11, 12, 13, 14, 15}}}
	for i := range 64 {
		m.Precincts = append(m.Precincts, api.Precinct{Name: strconv.Itoa(i)})
	}
	return m
}

// anyTown is some manifest that nothing is wrong with.
func (r ring) anyTown(d *rand.Rand) api.Manifest {
	m := r.town()
	m.Lots = strconv.Itoa(d.Int())
	m.Contests, m.Styles, m.Precincts = nil, nil, nil
	for i := range 1 + d.IntN(16) {
		c := api.Contest{Name: strconv.Itoa(i), Rule: 1 + d.IntN(4), Seats: 1}
		for k := range 1 + d.IntN(12) {
			c.Options = append(c.Options, strconv.Itoa(k))
		}
		if c.Rule == api.RulePlural {
			c.Most = 1 + d.IntN(len(c.Options))
		}
		m.Contests = append(m.Contests, c)
	}
	for i := range 1 + d.IntN(4) {
		places := d.Perm(len(m.Contests))[:1+d.IntN(min(4, len(m.Contests)))]
		slices.Sort(places)
		m.Styles = append(m.Styles, api.Style{Name: strconv.Itoa(i), Contests: places})
	}
	for i := range 1 + d.IntN(64) {
		m.Precincts = append(m.Precincts, api.Precinct{Name: strconv.Itoa(i), Style: d.IntN(len(m.Styles))})
	}
	return m
}

// anyChoice is some choice that fits.
func anyChoice(d *rand.Rand, c api.Contest) []int {
	out := make([]int, len(c.Options))
	marks := d.IntN(len(out) + 1)
	if c.Rule == api.RulePlural {
		marks = d.IntN(c.Most + 1)
	}
	for i, option := range d.Perm(len(out))[:marks] {
		out[option] = 1
		if c.Rule == api.RuleTransfer || c.Rule == api.RulePairs {
			out[option] = 1 + i
		}
	}
	return out
}

// anyChoices are some that fit the ballot of a precinct.
func anyChoices(d *rand.Rand, m api.Manifest, precinct int) [][]int {
	var out [][]int
	for _, place := range m.Styles[m.Precincts[precinct].Style].Contests {
		out = append(out, anyChoice(d, m.Contests[place]))
	}
	return out
}

// clone is another ballot that shares no memory, with spare room behind its lists.
func clone(b api.Ballot) api.Ballot {
	b.Parts = roomy(b.Parts)
	for i, p := range b.Parts {
		p.Ciphers, p.Proofs, p.Sum = roomy(p.Ciphers), roomy(p.Proofs), cloneEither(p.Sum)
		for k := range p.Proofs {
			p.Proofs[k] = cloneEither(p.Proofs[k])
		}
		b.Parts[i] = p
	}
	return b
}

func cloneEither(p api.Either) api.Either {
	if p.Challenges == nil && p.Answers == nil {
		return p
	}
	p.Challenges, p.Answers = roomy(p.Challenges), roomy(p.Answers)
	for i := range p.Answers {
		p.Answers[i] = roomy(p.Answers[i])
	}
	return p
}

func roomy[T any](l []T) []T { return append(make([]T, 0, len(l)+5), l...) }

// same tells where something else comes than should.
func same[T any](t *testing.T, what string, got T, e api.Errno, want T) {
	t.Helper()
	if e != api.OK || !reflect.DeepEqual(got, want) {
		t.Errorf("%s: %s comes, error %d, not %s", what, short(got), e, short(want))
	}
}

// fails tells where an error is another one, or something comes beside it.
func fails(t *testing.T, what string, nothing bool, e api.Errno, want api.Errno) {
	t.Helper()
	if !nothing || e != want {
		t.Errorf("%s: error %d comes, not %d (nothing beside it: %t)", what, e, want, nothing)
	}
}

// tells tells where an error is another one.
func tells(t *testing.T, what string, e api.Errno, want api.Errno) {
	t.Helper()
	fails(t, what, true, e, want)
}

// short is a value as a message can show it.
func short(v any) string {
	s := fmt.Sprintf("%+q", v)
	if len(s) > 300 {
		return s[:300] + ".."
	}
	return s
}

// noCipher and noBallot tell whether nothing is in them.
func noCipher(c api.Cipher) bool { return c == api.Cipher{} }

func noBallot(b api.Ballot) bool { return reflect.DeepEqual(b, api.Ballot{}) }
