package roll_test

import (
	"fmt"
	"math/rand/v2"
	"reflect"
	"slices"
	"strings"
	"testing"

	"hustings/api"
	"hustings/group"
	"hustings/sigma"
)

// The edges of int.
const (
	least = -1 << 63
	most  = 1<<63 - 1
)

// dice is a row of numbers that is the same each time.
func dice() *rand.Rand { return rand.New(rand.NewPCG(8, 1)) }

// scalar is a number as a scalar.
func scalar(kind, n int) string {
	s, _ := group.Number(kind, n)
	return s
}

// key is the public key of a small secret.
func key(kind, secret int) string {
	s, _ := sigma.Public(kind, scalar(kind, secret))
	return s
}

// Secrets of the registrar and the clerk.
const (
	registrar = 77
	clerk     = 78
)

// town is a manifest that nothing is wrong with: all four rules, styles, precincts.
func town(kind int) api.Manifest {
	return api.Manifest{
		Kind: kind,
		Name: "town",
		Contests: []api.Contest{
			{Name: "mayor", Options: []string{"ann", "bob", "cat"}, Rule: api.RulePlural, Seats: 1, Most: 2},
			{Name: "council", Options: []string{"x", "y", "z"}, Rule: api.RuleTransfer, Seats: 3},
			{Name: "parks", Options: []string{"ann", "x", "no", "yes"}, Rule: api.RuleApproval, Seats: 2},
			{Name: "bridge", Options: []string{"here", "there"}, Rule: api.RulePairs, Seats: 1},
		},
		Styles:    []api.Style{{Name: "all", Contests: []int{0, 1, 2, 3}}, {Name: "some", Contests: []int{1, 3}}, {Name: "ann", Contests: []int{2}}},
		Precincts: []api.Precinct{{Name: "north", Style: 0}, {Name: "south", Style: 2}, {Name: "all", Style: 1}, {Name: "town", Style: 1}},
		Trustees:  []string{key(kind, 11), key(kind, 12), key(kind, 12)},
		Need:      2,
		Mixes:     1,
		Registrar: key(kind, registrar),
		Clerk:     key(kind, clerk),
		Lots:      "lots",
	}
}

// crowd is a manifest that has as much of everything as one may have.
func crowd(kind int) api.Manifest {
	m := api.Manifest{Kind: kind, Name: word(32, 0), Need: 8, Mixes: 8, Registrar: key(kind, 1), Clerk: key(kind, 1), Again: true, Lots: strings.Repeat("\x00\xff(:", 16)}
	for i := range 16 {
		c := api.Contest{Name: word(32, i), Rule: api.RulePlural, Seats: 12, Most: 12}
		for k := range 12 {
			c.Options = append(c.Options, word(32, k))
		}
		m.Contests = append(m.Contests, c)
		s := api.Style{Name: word(32, i)}
		for k := range 16 {
			s.Contests = append(s.Contests, k)
		}
		m.Styles = append(m.Styles, s)
	}
	for i := range 64 {
		m.Precincts = append(m.Precincts, api.Precinct{Name: word(32, i), Style: 15})
	}
	for i := range 8 {
		m.Trustees = append(m.Trustees, key(kind, i))
	}
	return m
}

// hamlet is a manifest that has as little of everything as one may have.
func hamlet(kind int) api.Manifest {
	one := scalar(kind, 1) // as an element
	return api.Manifest{
		Kind:      kind,
		Name:      "!",
		Contests:  []api.Contest{{Name: "~", Options: []string{"-"}, Rule: api.RulePlural, Seats: 1, Most: 1}},
		Styles:    []api.Style{{Name: "~", Contests: []int{0}}},
		Precincts: []api.Precinct{{Name: "~"}},
		Trustees:  []string{one},
		Need:      1,
		Registrar: one,
		Clerk:     one,
	}
}

// word is a text of so many bytes, each of those that a word may have, another one for each number below 94.
func word(size, n int) string {
	b := make([]byte, size)
	for i := range b {
		b[i] = byte(33 + (n+i)%94)
	}
	return string(b)
}

// anyManifest is some manifest that nothing is wrong with.
func anyManifest(d *rand.Rand, kind int) api.Manifest {
	m := api.Manifest{Kind: kind, Name: anyWord(d), Mixes: d.IntN(9), Again: d.IntN(2) == 0, Lots: anyText(d, d.IntN(65))}
	for _, name := range anyWords(d, 1+d.IntN(16)) {
		m.Contests = append(m.Contests, anyContest(d, name))
	}
	for _, name := range anyWords(d, 1+d.IntN(16)) {
		places := d.Perm(len(m.Contests))[:1+d.IntN(len(m.Contests))]
		slices.Sort(places)
		m.Styles = append(m.Styles, api.Style{Name: name, Contests: places})
	}
	for _, name := range anyWords(d, 1+d.IntN(64)) {
		m.Precincts = append(m.Precincts, api.Precinct{Name: name, Style: d.IntN(len(m.Styles))})
	}
	for range 1 + d.IntN(8) {
		m.Trustees = append(m.Trustees, key(kind, d.Int()))
	}
	m.Need = 1 + d.IntN(len(m.Trustees))
	m.Registrar, m.Clerk = key(kind, d.Int()), key(kind, d.Int())
	return m
}

func anyContest(d *rand.Rand, name string) api.Contest {
	c := api.Contest{Name: name, Options: anyWords(d, 1+d.IntN(12)), Rule: 1 + d.IntN(4)}
	c.Seats = 1 + d.IntN(len(c.Options))
	switch c.Rule {
	case api.RulePlural:
		c.Most = 1 + d.IntN(len(c.Options))
	case api.RulePairs:
		c.Seats = 1
	}
	return c
}

func anyWord(d *rand.Rand) string { return word(1+d.IntN(32), d.IntN(94)) }

// anyWords are so many of them, unlike.
func anyWords(d *rand.Rand, n int) []string {
	var out []string
	for len(out) < n {
		if w := anyWord(d); !slices.Contains(out, w) {
			out = append(out, w)
		}
	}
	return out
}

func anyText(d *rand.Rand, size int) string {
	b := make([]byte, size)
	for i := range b {
		b[i] = byte(d.IntN(256))
	}
	return string(b)
}

// clone is another manifest that shares no memory, with spare room behind its lists.
func clone(m api.Manifest) api.Manifest {
	m.Contests = roomy(m.Contests)
	for i := range m.Contests {
		m.Contests[i].Options = roomy(m.Contests[i].Options)
	}
	m.Styles = roomy(m.Styles)
	for i := range m.Styles {
		m.Styles[i].Contests = roomy(m.Styles[i].Contests)
	}
	m.Precincts, m.Trustees = roomy(m.Precincts), roomy(m.Trustees)
	return m
}

func roomy[T any](l []T) []T { return append(make([]T, 0, len(l)+5), l...) }

// same tells where something else comes than should.
func same[T any](t *testing.T, what string, got T, e api.Errno, want T) {
	t.Helper()
	if e != api.OK || !reflect.DeepEqual(got, want) {
		t.Errorf("%s: %s comes, error %d, not %s", what, short(got), e, short(want))
	}
}

// fails tells where an error is another one, or something comes beside it.
func fails(t *testing.T, what string, nothing bool, e api.Errno, want api.Errno) {
	t.Helper()
	if !nothing || e != want {
		t.Errorf("%s: error %d comes, not %d (nothing beside it: %t)", what, e, want, nothing)
	}
}

// short is a value as a message can show it.
func short(v any) string {
	s := fmt.Sprintf("%+q", v)
	if len(s) > 300 {
		return s[:300] + ".."
	}
	return s
}

// noManifest and noChange tell whether nothing is in them.
func noManifest(m api.Manifest) bool { return reflect.DeepEqual(m, api.Manifest{}) }

func noChange(c api.Change) bool { return reflect.DeepEqual(c, api.Change{}) }
