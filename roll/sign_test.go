package roll_test

import (
	"fmt"
	"reflect"
	"strings"
	"testing"

	"hustings/api"
	"hustings/roll"
	"hustings/sigma"
)

// anyChanges are some, right ones and others: Sign looks at their numbers alone.
func anyChanges(kind int) []api.Change {
	return []api.Change{
		{},
		{Do: api.ChangeJoin, Id: "ann", Precinct: 1, Key: key(kind, 5)},
		{Do: api.ChangeMove, Id: "ann", Precinct: 3},
		{Do: api.ChangeKey, Id: "ann", Key: key(kind, 6)},
		{Do: api.ChangeStrike, Id: "ann"},
		{Do: 5, Id: "no word", Precinct: 64, Key: "no key"},
		{Do: 1 << 20, Id: strings.Repeat("i", 100), Precinct: 1 << 20, Key: "\x00"},
		{Do: 256, Id: "\xff", Precinct: 65536, Sign: api.Proof{Challenge: "c", Answers: []string{"a", "b"}}},
	}
}

func TestR2Sign(t *testing.T) {
	for _, kind := range []int{api.Tiny, api.Short, api.Full} {
		for _, m := range []api.Manifest{town(kind), hamlet(kind)} {
			for _, number := range []int{0, 1, 255, 256, 65536, 1<<20 - 1, 1 << 20} {
				for i, c := range anyChanges(kind) {
					x, seed := scalar(kind, registrar+i), fmt.Sprint(i/2)
					want := c
					want.Sign, _ = sigma.Sign(kind, x, textModel(m, number, c), seed)
					got, e := roll.Sign(m, number, c, x, seed)
					same(t, fmt.Sprint("change ", i, ", number ", number), got, e, want)
				}
			}
		}
	}
}

func TestR2SignRange(t *testing.T) {
	m, x := town(api.Short), scalar(api.Short, registrar)
	for _, n := range []int{-1, 1<<20 + 1, 1 << 32, -1 << 32, least, most} {
		for _, secret := range []string{x, "none"} {
			c, e := roll.Sign(m, n, api.Change{Do: 1, Id: "ann"}, secret, "seed")
			fails(t, fmt.Sprint("number ", n), noChange(c), e, api.ErrRange)
			c, e = roll.Sign(m, 0, api.Change{Do: n, Id: "ann"}, secret, "seed")
			fails(t, fmt.Sprint("Do ", n), noChange(c), e, api.ErrRange)
			c, e = roll.Sign(m, 0, api.Change{Do: 1, Id: "ann", Precinct: n}, secret, "seed")
			fails(t, fmt.Sprint("Precinct ", n), noChange(c), e, api.ErrRange)
		}
	}
}

func TestR2SignWrong(t *testing.T) {
	for _, kind := range []int{api.Tiny, api.Short, api.Full} {
		m := town(kind)
		for _, secret := range []string{"", "none", strings.Repeat("\xff", len(scalar(kind, 0))), scalar(kind, 1) + "\x00", scalar(kind, 1)[1:]} {
			c, e := roll.Sign(m, 0, api.Change{Do: 1, Id: "ann", Key: key(kind, 1)}, secret, "seed")
			fails(t, "no secret", noChange(c), e, api.ErrScalar)
		}
	}
	for _, f := range faultsOfTowns() {
		m := clone(town(api.Short))
		f.do(&m)
		for _, number := range []int{0, -1} {
			c, e := roll.Sign(m, number, api.Change{Do: 1, Id: "ann"}, "none", "seed")
			fails(t, f.what, noChange(c), e, f.e)
		}
	}
}

// What a change says, its number and the manifest are signed: no two texts are alike.
func TestR2Text(t *testing.T) {
	m, x := town(api.Short), scalar(api.Short, registrar)
	other := town(api.Short)
	other.Lots = "others"
	seen := map[string]string{}
	sign := func(what string, m api.Manifest, number int, c api.Change) {
		t.Helper()
		c, e := roll.Sign(m, number, c, x, "seed")
		if e != api.OK || seen[c.Sign.Challenge] != "" {
			t.Errorf("%s: signed as %q, error %d", what, seen[c.Sign.Challenge], e)
		}
		seen[c.Sign.Challenge] = what
	}
	sign("as it is", m, 3, api.Change{Do: 1, Id: "ann", Precinct: 2, Key: "k"})
	sign("another number", m, 4, api.Change{Do: 1, Id: "ann", Precinct: 2, Key: "k"})
	sign("another deed", m, 3, api.Change{Do: 2, Id: "ann", Precinct: 2, Key: "k"})
	sign("another id", m, 3, api.Change{Do: 1, Id: "bob", Precinct: 2, Key: "k"})
	sign("another precinct", m, 3, api.Change{Do: 1, Id: "ann", Precinct: 1, Key: "k"})
	sign("another key", m, 3, api.Change{Do: 1, Id: "ann", Precinct: 2, Key: "l"})
	sign("another manifest", other, 3, api.Change{Do: 1, Id: "ann", Precinct: 2, Key: "k"})
}

// A signature that was there is of no account, and is left as it is.
func TestE2Sign(t *testing.T) {
	m, x := town(api.Short), scalar(api.Short, registrar)
	answers := []string{"a", "b"}
	c := api.Change{Do: 1, Id: "ann", Key: key(api.Short, 5), Sign: api.Proof{Challenge: "c", Answers: answers[:1]}}
	first, _ := roll.Sign(m, 0, c, x, "seed")
	c.Sign = api.Proof{}
	second, e := roll.Sign(m, 0, c, x, "seed")
	same(t, "Sign again", first, e, second)
	first.Sign.Answers[0] = "changed"
	third, e := roll.Sign(m, 0, c, x, "seed")
	same(t, "Sign once more", third, e, second)
	if !reflect.DeepEqual(answers, []string{"a", "b"}) {
		t.Error("answers that were handed in are changed")
	}
}
