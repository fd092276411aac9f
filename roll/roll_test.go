package roll_test

import (
	"fmt"
	"math/rand/v2"
	"slices"
	"strings"
	"testing"

	"hustings/api"
	"hustings/roll"
	"hustings/sigma"
)

// opened is a roll, and it must be one.
func opened(t *testing.T, m api.Manifest) *roll.Roll {
	t.Helper()
	r, e := roll.Open(m)
	if e != api.OK || r == nil {
		t.Fatalf("Open: error %d", e)
	}
	return r
}

// signed is a change that the registrar has signed for a number.
func signed(m api.Manifest, number int, c api.Change) api.Change {
	return signedBy(m, number, c, registrar)
}

func signedBy(m api.Manifest, number int, c api.Change, secret int) api.Change {
	c.Sign, _ = sigma.Sign(m.Kind, scalar(m.Kind, secret), textModel(m, number, c), "seed")
	return c
}

// rolls is a roll, and the model of it.
type rolls struct {
	*testing.T
	r     *roll.Roll
	model rollModel
}

func newRolls(t *testing.T, m api.Manifest) *rolls {
	return &rolls{t, opened(t, m), rollModel{m: m}}
}

// apply: a change is applied, or not, as the document says.
func (l *rolls) apply(c api.Change) api.Errno {
	l.Helper()
	e, want := l.r.Apply(c), l.model.apply(c)
	if e != want {
		l.Fatalf("change %d, %s: error %d comes, not %d", len(l.model.applied), short(c), e, want)
	}
	return e
}

// gives: a change that is signed as it should be gives this.
func (l *rolls) gives(want api.Errno, c api.Change) {
	l.Helper()
	if e := l.apply(signed(l.model.m, len(l.model.applied), c)); e != want {
		l.Errorf("%s: error %d comes, not %d", short(c), e, want)
	}
}

// look: all that the roll tells is as the document says.
func (l *rolls) look(ids ...string) {
	l.Helper()
	voters := l.model.voters()
	if got := slices.Collect(l.r.Voters()); !slices.Equal(got, voters) {
		l.Errorf("%s stand on the roll, not %s", short(got), short(voters))
	}
	if n, changes := l.r.Count(); n != len(voters) || changes != len(l.model.applied) {
		l.Errorf("%d voters and %d changes are counted, not %d and %d", n, changes, len(voters), len(l.model.applied))
	}
	for _, id := range ids {
		want, stands, _ := l.model.find(id)
		if got, ok := l.r.Find(id); got != want || ok != stands {
			l.Errorf("%q: %s %t is found, not %s %t", id, short(got), ok, short(want), stands)
		}
	}
}

func TestR3Open(t *testing.T) {
	for _, kind := range []int{api.Tiny, api.Short, api.Full} {
		l := newRolls(t, town(kind))
		l.look("", "ann", strings.Repeat("i", 100))
	}
	for _, f := range faultsOfTowns() {
		m := clone(town(api.Short))
		f.do(&m)
		r, e := roll.Open(m)
		fails(t, f.what, r == nil, e, f.e)
	}
}

func TestR3Apply(t *testing.T) {
	for _, kind := range []int{api.Tiny, api.Short, api.Full} {
		l := newRolls(t, town(kind))
		k := func(n int) string { return key(kind, n) }
		steps := []struct {
			e api.Errno
			c api.Change
		}{
			{api.ErrNone, api.Change{Do: api.ChangeMove, Id: "ann"}},
			{api.ErrNone, api.Change{Do: api.ChangeKey, Id: "ann", Key: k(1)}},
			{api.ErrNone, api.Change{Do: api.ChangeStrike, Id: "ann"}},
			{api.OK, api.Change{Do: api.ChangeJoin, Id: "ann", Precinct: 3, Key: k(1)}},
			{api.ErrTwice, api.Change{Do: api.ChangeJoin, Id: "ann", Precinct: 1, Key: k(2)}},
			{api.ErrTwice, api.Change{Do: api.ChangeJoin, Id: "bob", Precinct: 1, Key: k(1)}},
			{api.OK, api.Change{Do: api.ChangeJoin, Id: "bob", Precinct: 0, Key: k(2)}},
			{api.OK, api.Change{Do: api.ChangeMove, Id: "bob", Precinct: 2}},
			{api.OK, api.Change{Do: api.ChangeMove, Id: "bob", Precinct: 2}},
			{api.ErrTwice, api.Change{Do: api.ChangeKey, Id: "bob", Key: k(2)}},
			{api.ErrTwice, api.Change{Do: api.ChangeKey, Id: "bob", Key: k(1)}},
			{api.OK, api.Change{Do: api.ChangeKey, Id: "bob", Key: k(3)}},
			{api.ErrTwice, api.Change{Do: api.ChangeKey, Id: "ann", Key: k(2)}},
			{api.ErrTwice, api.Change{Do: api.ChangeKey, Id: "bob", Key: k(2)}},
			{api.OK, api.Change{Do: api.ChangeStrike, Id: "ann"}},
			{api.ErrNone, api.Change{Do: api.ChangeStrike, Id: "ann"}},
			{api.ErrNone, api.Change{Do: api.ChangeMove, Id: "ann", Precinct: 1}},
			{api.ErrNone, api.Change{Do: api.ChangeKey, Id: "ann", Key: k(1)}},
			{api.ErrNone, api.Change{Do: api.ChangeKey, Id: "ann", Key: k(9)}},
			{api.ErrTwice, api.Change{Do: api.ChangeJoin, Id: "ann", Key: k(9)}},
			{api.ErrTwice, api.Change{Do: api.ChangeJoin, Id: "cat", Key: k(1)}},
			{api.OK, api.Change{Do: api.ChangeJoin, Id: "cat", Key: k(9)}},
			{api.OK, api.Change{Do: api.ChangeJoin, Id: "Ann", Precinct: 1, Key: k(10)}},
			{api.OK, api.Change{Do: api.ChangeJoin, Id: word(32, 0), Precinct: 3, Key: k(11)}},
			{api.OK, api.Change{Do: api.ChangeJoin, Id: "~", Precinct: 3, Key: k(12)}},
		}
		for _, s := range steps {
			l.gives(s.e, s.c)
			l.look("ann", "bob", "cat", "Ann", "~", "", word(32, 0))
		}
	}
}

// What is wrong with a change itself is told whoever stands on the roll, and whatever is signed.
func TestR3ApplyWrong(t *testing.T) {
	m := town(api.Short)
	l := newRolls(t, m)
	l.gives(api.OK, api.Change{Do: api.ChangeJoin, Id: "ann", Precinct: 1, Key: key(api.Short, 1)})
	for _, do := range []int{0, 5, -1, 1<<32 + 1, least, most} {
		l.gives(api.ErrForm, api.Change{Do: do, Id: "ann"})
		l.gives(api.ErrForm, api.Change{Do: do, Id: "ann", Precinct: 9, Key: "none"})
	}
	for do := range 5 {
		for _, id := range []string{"", " ", "a b", "\x7f", "\xff", "ann\x00", strings.Repeat("i", 33), strings.Repeat("i", 1<<16)} {
			l.gives(api.ErrForm, api.Change{Do: do, Id: id})
			l.gives(api.ErrForm, api.Change{Do: do, Id: id, Precinct: -1, Key: key(api.Short, 2)})
		}
	}
	for _, k := range []string{key(api.Short, 1), key(api.Short, 2), "none", "\x00"} {
		l.gives(api.ErrForm, api.Change{Do: api.ChangeMove, Id: "ann", Key: k})
		l.gives(api.ErrForm, api.Change{Do: api.ChangeMove, Id: "ann", Precinct: 99, Key: k})
		l.gives(api.ErrForm, api.Change{Do: api.ChangeStrike, Id: "ann", Key: k})
	}
	for _, n := range []int{1, 4, -1, 1 << 32, least, most} {
		l.gives(api.ErrForm, api.Change{Do: api.ChangeKey, Id: "ann", Precinct: n, Key: key(api.Short, 2)})
		l.gives(api.ErrForm, api.Change{Do: api.ChangeKey, Id: "ann", Precinct: n, Key: "none"})
		l.gives(api.ErrForm, api.Change{Do: api.ChangeStrike, Id: "ann", Precinct: n})
	}
	for _, n := range []int{4, 64, -1, 1 << 32, 1<<32 + 1, least, most} {
		l.gives(api.ErrRange, api.Change{Do: api.ChangeJoin, Id: "bob", Precinct: n, Key: key(api.Short, 2)})
		l.gives(api.ErrRange, api.Change{Do: api.ChangeJoin, Id: "bob", Precinct: n, Key: "none"})
		l.gives(api.ErrRange, api.Change{Do: api.ChangeMove, Id: "ann", Precinct: n})
	}
	for _, k := range []string{"", "none", scalar(api.Short, 0), strings.Repeat("\xff", 8), key(api.Tiny, 3), key(api.Full, 3), key(api.Short, 2) + "\x00"} {
		l.gives(api.ErrElem, api.Change{Do: api.ChangeJoin, Id: "bob", Precinct: 1, Key: k})
		l.gives(api.ErrElem, api.Change{Do: api.ChangeKey, Id: "ann", Key: k})
		l.gives(api.ErrElem, api.Change{Do: api.ChangeKey, Id: "nobody", Key: k})
	}
	l.look("ann", "bob")
}

// A change is signed by the registrar, just as it is, for this election, and for its number.
func TestR3ApplyProof(t *testing.T) {
	for _, kind := range []int{api.Short, api.Full} {
		m := town(kind)
		l := newRolls(t, m)
		l.gives(api.OK, api.Change{Do: api.ChangeJoin, Id: "ann", Key: key(kind, 1)})
		l.gives(api.OK, api.Change{Do: api.ChangeMove, Id: "ann", Precinct: 1})
		c := api.Change{Do: api.ChangeJoin, Id: "bob", Precinct: 2, Key: key(kind, 2)}
		refused := func(what string, c api.Change) {
			t.Helper()
			if e := l.apply(c); e != api.ErrProof {
				t.Errorf("%s: error %d comes, not ErrProof", what, e)
			}
		}
		for _, n := range []int{0, 1, 3, 4, 1 << 20, 1<<32 + 3, -2} {
			refused(fmt.Sprint("number ", n), signed(m, n, c))
		}
		refused("by the clerk", signedBy(m, 2, c, clerk))
		refused("by bob", signedBy(m, 2, c, 2))
		refused("not at all", c)
		other := town(kind)
		other.Again = true
		refused("for another election", signed(other, 2, c))
		right := signed(m, 2, c)
		for _, do := range []func(c *api.Change){
			func(c *api.Change) { c.Id = "bop" },
			func(c *api.Change) { c.Precinct = 1 },
			func(c *api.Change) { c.Key = key(kind, 3) },
			func(c *api.Change) { c.Do, c.Precinct = api.ChangeKey, 0 },
			func(c *api.Change) { c.Do, c.Key = api.ChangeMove, "" },
			func(c *api.Change) { c.Sign.Challenge = scalar(kind, 5) },
			func(c *api.Change) { c.Sign.Challenge = "" },
			func(c *api.Change) { c.Sign.Answers = []string{scalar(kind, 5)} },
			func(c *api.Change) { c.Sign.Answers = nil },
			func(c *api.Change) { c.Sign.Answers = slices.Repeat(c.Sign.Answers, 2) },
			func(c *api.Change) { c.Sign.Answers = []string{"none"} },
			func(c *api.Change) { c.Sign.Answers = slices.Repeat([]string{""}, 1000) },
		} {
			wrong := right
			do(&wrong)
			refused("changed", wrong)
		}
		// Who signs is asked ahead of who stands on the roll.
		refused("of one who stands on it", signed(m, 0, api.Change{Do: api.ChangeJoin, Id: "ann", Key: key(kind, 1)}))
		refused("of nobody", signed(m, 0, api.Change{Do: api.ChangeStrike, Id: "nobody"}))
		l.look("ann", "bob")
		if e := l.apply(right); e != api.OK {
			t.Errorf("error %d comes", e)
		}
		refused("once more", right)
		l.look("ann", "bob")
	}
}

// What Sign signs is right for Apply.
func TestR3SignApply(t *testing.T) {
	for _, kind := range []int{api.Tiny, api.Short, api.Full} {
		m := town(kind)
		l := newRolls(t, m)
		for i, c := range []api.Change{
			{Do: api.ChangeJoin, Id: "ann", Precinct: 3, Key: key(kind, 1)},
			{Do: api.ChangeMove, Id: "ann", Precinct: 1},
			{Do: api.ChangeKey, Id: "ann", Key: key(kind, 2)},
			{Do: api.ChangeStrike, Id: "ann"},
		} {
			c, e := roll.Sign(m, i, c, scalar(kind, registrar), "seed")
			if e != api.OK || l.apply(c) != api.OK {
				t.Errorf("kind %d, change %d is not applied", kind, i)
			}
			l.look("ann")
		}
	}
}

// However changes come one behind the other, right and wrong ones: the roll is what those that were applied make it.
func TestR3Any(t *testing.T) {
	d := dice()
	told := map[api.Errno]int{}
	for _, kind := range []int{api.Tiny, api.Short} {
		for range 20 {
			l := newRolls(t, town(kind))
			ids := []string{"a", "b", "B", "ab", "a!", "~", "aa", "b0", "Zz", word(32, 5)}
			for range 150 {
				told[l.apply(anyChange(d, l.model, ids))]++
				l.look(ids...)
			}
		}
	}
	for _, e := range []api.Errno{api.OK, api.ErrForm, api.ErrRange, api.ErrElem, api.ErrProof, api.ErrTwice, api.ErrNone} {
		if told[e] < 100 {
			t.Errorf("error %d came %d times", e, told[e])
		}
	}
}

// anyChange is some change of a roll: right more often than not.
func anyChange(d *rand.Rand, l rollModel, ids []string) api.Change {
	m := l.m
	c := api.Change{Do: 1 + d.IntN(4), Id: ids[d.IntN(len(ids))]}
	if c.Do == api.ChangeJoin || c.Do == api.ChangeMove || d.IntN(15) == 0 {
		c.Precinct = d.IntN(len(m.Precincts))
	}
	if c.Do == api.ChangeJoin || c.Do == api.ChangeKey || d.IntN(15) == 0 {
		c.Key = key(m.Kind, d.IntN(60))
	}
	switch d.IntN(15) {
	case 0:
		c.Id = []string{"", " ", strings.Repeat("i", 33), "\xff"}[d.IntN(4)]
	case 1:
		c.Do = d.IntN(8) - 2
	case 2, 3:
		c.Precinct = []int{-1, 4, 5, 1 << 40}[d.IntN(4)]
	case 4, 5:
		c.Key = []string{"", "none", scalar(m.Kind, 0), scalar(m.Kind, -1) + "\x00"}[d.IntN(4)]
	}
	switch d.IntN(10) {
	case 0:
		return signed(m, len(l.applied)+d.IntN(5)-2, c)
	case 1:
		return signedBy(m, len(l.applied), c, registrar+d.IntN(2))
	}
	return signed(m, len(l.applied), c)
}

// 4,096 ids may ever stand on the roll, those who are struck among them.
func TestR3Full(t *testing.T) {
	m := town(api.Short)
	r := opened(t, m)
	changes := 0
	gives := func(want api.Errno, c api.Change) {
		t.Helper()
		e := r.Apply(signed(m, changes, c))
		if e == api.OK {
			changes++
		}
		if e != want {
			t.Fatalf("change %d: error %d comes, not %d", changes, e, want)
		}
	}
	k := func(n int) string { return scalar(api.Short, n+1) }
	join := func(n, secret int) api.Change {
		return api.Change{Do: api.ChangeJoin, Id: fmt.Sprint("id", n), Precinct: n % 4, Key: k(secret)}
	}
	for n := range 4096 {
		if n == 4000 {
			gives(api.OK, api.Change{Do: api.ChangeStrike, Id: "id5"})
		}
		gives(api.OK, join(n, n))
	}
	gives(api.ErrFull, join(4096, 5000))
	gives(api.ErrTwice, join(4096, 5)) // ahead of there being no room
	gives(api.ErrTwice, join(5, 5000))
	gives(api.ErrTwice, join(6, 5000))
	gives(api.ErrNone, api.Change{Do: api.ChangeMove, Id: "id4096"})
	gives(api.OK, api.Change{Do: api.ChangeMove, Id: "id4095", Precinct: 1})
	gives(api.OK, api.Change{Do: api.ChangeKey, Id: "id4095", Key: k(5000)})
	gives(api.OK, api.Change{Do: api.ChangeStrike, Id: "id4095"})
	gives(api.ErrFull, join(4096, 5001))
	if n, c := r.Count(); n != 4094 || c != changes || c != 4100 {
		t.Errorf("%d voters, %d changes", n, c)
	}
	if all := slices.Collect(r.Voters()); len(all) != 4094 || !slices.IsSortedFunc(all, func(a, b api.Voter) int { return strings.Compare(a.Id, b.Id) }) {
		t.Errorf("%d voters are told", len(all))
	}
}

// manyVoters is a roll on which some stand, who came in another order than they are told in.
func manyVoters(t *testing.T) *rolls {
	l := newRolls(t, town(api.Short))
	for i, id := range []string{"b", "a", "B", "ab", "aa", "~", "!", "a!", "10", "9"} {
		l.gives(api.OK, api.Change{Do: api.ChangeJoin, Id: id, Precinct: i % 4, Key: key(api.Short, i)})
	}
	return l
}

func TestR4Order(t *testing.T) {
	var ids []string
	for v := range manyVoters(t).r.Voters() {
		ids = append(ids, v.Id)
	}
	if got := strings.Join(ids, " "); got != "! 10 9 B a a! aa ab b ~" {
		t.Errorf("the ids come as %s", got)
	}
}

// A sequence tells those who stood on the roll when it was asked for, again and again, and stops when it is told to.
func TestE2Voters(t *testing.T) {
	l := manyVoters(t)
	want := l.model.voters()
	all := l.r.Voters()
	for most := 1; most <= len(want); most++ {
		var got []api.Voter
		no := false
		all(func(v api.Voter) bool {
			if no {
				t.Error("something is told behind a no")
			}
			got = append(got, v)
			no = len(got) == most
			return !no
		})
		if !slices.Equal(got, want[:most]) {
			t.Errorf("%s are told, not %s", short(got), short(want[:most]))
		}
	}
	pairs := 0
	for range all {
		for range all {
			pairs++
		}
	}
	if pairs != len(want)*len(want) {
		t.Errorf("%d pairs are told", pairs)
	}
	for v := range all {
		l.gives(api.OK, api.Change{Do: api.ChangeStrike, Id: v.Id})
	}
	if got := slices.Collect(all); !slices.Equal(got, want) {
		t.Errorf("the sequence has changed: %s", short(got))
	}
	l.look("a", "b")
	if got := slices.Collect(l.r.Voters()); len(got) != 0 {
		t.Errorf("%s are told, and nobody stands on the roll", short(got))
	}
}

// A roll keeps nothing of what was handed in.
func TestE2Roll(t *testing.T) {
	m := clone(town(api.Short))
	l := rolls{t, opened(t, m), rollModel{m: town(api.Short)}}
	changeAll(&m)
	l.gives(api.OK, api.Change{Do: api.ChangeJoin, Id: "ann", Precinct: 3, Key: key(api.Short, 1)})
	c := signed(l.model.m, 1, api.Change{Do: api.ChangeMove, Id: "ann", Precinct: 2})
	answers := append(slices.Clone(c.Sign.Answers), "spare")
	c.Sign.Answers = answers[:1]
	if e := l.apply(c); e != api.OK || answers[1] != "spare" {
		t.Errorf("error %d comes, or what is behind the answers has changed", e)
	}
	answers[0] = "changed"
	l.look("ann")
}

// Rolls do not know of one another.
func TestE1Several(t *testing.T) {
	a, b := newRolls(t, town(api.Short)), newRolls(t, town(api.Short))
	for i := range 5 {
		a.gives(api.OK, api.Change{Do: api.ChangeJoin, Id: fmt.Sprint("a", i), Key: key(api.Short, i)})
		b.look("a0", "a1")
	}
	for i := range 5 {
		b.gives(api.OK, api.Change{Do: api.ChangeJoin, Id: fmt.Sprint("a", 4-i), Key: key(api.Short, i)})
		a.look("a0", "a4")
		b.look("a0", "a4")
	}
}

// In a small group what was signed for one number may be right for another, by chance: then it is applied.
func TestR3TinyChance(t *testing.T) {
	l := newRolls(t, town(api.Tiny))
	l.gives(api.OK, api.Change{Do: api.ChangeJoin, Id: "ann", Key: key(api.Tiny, 1)})
	c := api.Change{Do: api.ChangeMove, Id: "ann", Precinct: 1}
	chance := 0
	for number := range 3000 {
		if l.apply(signed(l.model.m, number+2000, c)) == api.OK {
			chance++
		}
	}
	if chance == 0 {
		t.Error("it never is")
	}
}

// All changes of whatever form end in an answer.
func TestE1Apply(t *testing.T) {
	l := newRolls(t, town(api.Short))
	for _, c := range []api.Change{
		{}, {Do: least, Precinct: least}, {Do: most, Precinct: most, Id: strings.Repeat("i", 1<<20), Key: strings.Repeat("k", 1<<20)},
		{Do: api.ChangeJoin, Id: "ann", Key: strings.Repeat("k", 1<<20)},
		{Do: api.ChangeStrike, Id: "ann", Sign: api.Proof{Challenge: strings.Repeat("c", 1<<20), Answers: make([]string, 1<<16)}},
	} {
		if e := l.apply(c); e == api.OK {
			t.Errorf("%s is applied", short(c))
		}
	}
	l.look("", "ann", strings.Repeat("i", 1<<20))
}
