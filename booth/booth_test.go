package booth_test

import (
	"fmt"
	"math/rand/v2"
	"strings"
	"testing"

	"hustings/api"
	"hustings/ballot"
	"hustings/booth"
)

func TestT4Fill(t *testing.T) {
	kinds(t, func(t *testing.T, kind int) {
		b := opened(t, kind, disk(10))
		m := model{m: town(kind), key: key(kind), name: "one", seed: "seed", room: 10}
		for precinct := range 4 {
			choices := anyChoices(dice(), m.m, precinct)
			want, _ := m.fill("ann", precinct, choices)
			got, e := b.Fill("ann", precinct, choices)
			same(t, "Fill", got, e, want)
			same(t, "Last", b.Last(), e, want)
			wantCast, _ := m.giveCast()
			cast, e := b.Cast()
			same(t, "Cast", cast, e, wantCast)
			tells(t, "what is cast", ballot.Good(m.m, m.key, cast.Ballot), api.OK)
		}
	})
}

// The greatest ballot that there may be has a code.
func TestT4Crowd(t *testing.T) {
	m := model{m: crowd(api.Full), key: key(api.Full), name: "one", seed: "seed", room: 1}
	b, e := booth.Open(m.m, m.key, m.name, m.seed, disk(1))
	tells(t, "Open", e, api.OK)
	choices := anyChoices(dice(), m.m, 0)
	want, _ := m.fill("ann", 0, choices)
	got, e := b.Fill("ann", 0, choices)
	same(t, "Fill", got, e, want)
	o, e := b.Challenge()
	same(t, "Challenge", o, e, m.opening)
	tells(t, "Recheck", booth.Recheck(m.m, m.key, o), api.OK)
}

// wrongly is a call of Fill that is told.
type wrongly struct {
	what     string
	voter    string
	precinct int
	choices  [][]int
	e        api.Errno
}

// wrongs are in the order in which they are told; what comes later is wrong with those ahead of it too.
func wrongs() []wrongly {
	long := append(townChoices(), nil)
	short := townChoices()
	short[0] = short[0][:2]
	unfit := townChoices()
	unfit[2][1] = 2
	return []wrongly{
		{"no voter", "", 4, long, api.ErrForm},
		{"a voter who is no word", "a b", -1, long, api.ErrForm},
		{"a voter too long", strings.Repeat("v", 33), most, nil, api.ErrForm},
		{"no precinct", "ann", -1, long, api.ErrRange},
		{"a precinct too many", "ann", 4, nil, api.ErrRange},
		{"the least of all numbers", "ann", least, short, api.ErrRange},
		{"no choices", "ann", 0, nil, api.ErrForm},
		{"too many choices", "ann", 0, long, api.ErrForm},
		{"the choices of another precinct", "ann", 1, townChoices(), api.ErrForm},
		{"too short a choice", "ann", 0, short, api.ErrForm},
		{"a choice that does not fit", "ann", 0, unfit, api.ErrRange},
		{"marks too many", "ann", 0, [][]int{{1, 1, 1}, {2, 0, 1}, {1, 1, 1, 1}, {0, 1}}, api.ErrRange},
	}
}

// What is told leaves nothing in hand, and the next ballot as it would have been.
func TestT4Wrong(t *testing.T) {
	b := opened(t, api.Tiny, disk(10))
	m := model{m: town(api.Tiny), key: key(api.Tiny), name: "one", seed: "seed", room: 10}
	for _, w := range wrongs() {
		code, e := b.Fill(w.voter, w.precinct, w.choices)
		fails(t, w.what, code, e, w.e)
		same(t, "Last", b.Last(), api.OK, m.last())
		c, e := b.Cast()
		fails(t, "Cast: "+w.what, c, e, api.ErrState)
	}
	want, _ := m.fill("ann", 0, townChoices())
	got, e := b.Fill("ann", 0, townChoices())
	same(t, "Fill", got, e, want)
	for _, w := range wrongs() {
		code, e := b.Fill(w.voter, w.precinct, w.choices)
		fails(t, "in hand, "+w.what, code, e, api.ErrState)
	}
	o, e := b.Challenge()
	same(t, "Challenge", o, e, m.opening)
}

func TestT4State(t *testing.T) {
	b := opened(t, api.Tiny, disk(10))
	m := model{m: town(api.Tiny), key: key(api.Tiny), name: "one", seed: "seed", room: 10}
	m.fill("ann", 0, townChoices())
	b.Fill("ann", 0, townChoices())
	code, e := b.Fill("bob", 1, [][]int{{0, 0, 0, 0}})
	fails(t, "a second ballot", code, e, api.ErrState)
	same(t, "Last", b.Last(), api.OK, m.last())
	c, e := b.Cast()
	same(t, "Cast", c, e, m.cast)
}

// A ledger without room is told behind what is wrong with the ballot, and ahead of nothing else.
func TestT4Full(t *testing.T) {
	b := opened(t, api.Tiny, disk(2))
	var last string
	for range 3 {
		if code, e := b.Fill("ann", 0, townChoices()); e == api.OK {
			last = code
			code, e = b.Fill("ann", 0, townChoices())
			fails(t, "in hand", code, e, api.ErrState)
			b.Challenge()
		}
	}
	for range 2 {
		code, e := b.Fill("ann", 0, townChoices())
		fails(t, "a full booth", code, e, api.ErrFull)
		same(t, "Last", b.Last(), api.OK, last)
		o, e := b.Challenge()
		fails(t, "Challenge", o, e, api.ErrState)
	}
	for _, w := range wrongs() {
		code, e := b.Fill(w.voter, w.precinct, w.choices)
		fails(t, "a full booth, "+w.what, code, e, w.e)
	}
}

func TestT5Once(t *testing.T) {
	for _, first := range []string{"cast", "challenge"} {
		b := opened(t, api.Tiny, disk(10))
		m := model{m: town(api.Tiny), key: key(api.Tiny), name: "one", seed: "seed", room: 10}
		m.fill("ann", 0, townChoices())
		b.Fill("ann", 0, townChoices())
		if first == "cast" {
			c, e := b.Cast()
			same(t, "Cast", c, e, m.cast)
		} else {
			o, e := b.Challenge()
			same(t, "Challenge", o, e, m.opening)
			tells(t, "Recheck", booth.Recheck(m.m, m.key, o), api.OK)
		}
		for range 2 {
			c, e := b.Cast()
			fails(t, "Cast behind "+first, c, e, api.ErrState)
			o, e := b.Challenge()
			fails(t, "Challenge behind "+first, o, e, api.ErrState)
		}
		same(t, "Last", b.Last(), api.OK, m.last())
	}
}

// A booth that is opened anew has nothing in hand, and goes on behind what it has shown.
func TestT5Anew(t *testing.T) {
	d := disk(10)
	b := opened(t, api.Tiny, d)
	m := model{m: town(api.Tiny), key: key(api.Tiny), name: "one", seed: "seed", room: 10}
	for i := range 5 {
		voter := fmt.Sprint("voter", i)
		m.fill(voter, 0, townChoices())
		b.Fill(voter, 0, townChoices())
		b = opened(t, api.Tiny, d)
		m.hand = false
		same(t, "Last", b.Last(), api.OK, m.last())
		c, e := b.Cast()
		fails(t, "Cast", c, e, api.ErrState)
		o, e := b.Challenge()
		fails(t, "Challenge", o, e, api.ErrState)
	}
}

// walk does something or other with a booth, and holds it against the model.
func walk(t *testing.T, d *rand.Rand, b **booth.Booth, m *model, reopen func() *booth.Booth) {
	t.Helper()
	switch d.IntN(8) {
	case 0, 1, 2:
		precinct := d.IntN(len(m.m.Precincts))
		compareFill(t, *b, m, fmt.Sprint("v", d.IntN(3)), precinct, anyChoices(d, m.m, precinct))
	case 3:
		w := wrongs()[d.IntN(len(wrongs()))]
		compareFill(t, *b, m, w.voter, w.precinct, w.choices)
	case 4, 5:
		want, errno := m.giveCast()
		got, e := (*b).Cast()
		same(t, "Cast", got, api.OK, want)
		same(t, "Cast", e, api.OK, errno)
	case 6:
		want, errno := m.giveOpening()
		got, e := (*b).Challenge()
		same(t, "Challenge", got, api.OK, want)
		same(t, "Challenge", e, api.OK, errno)
		if e == api.OK {
			tells(t, "Recheck", booth.Recheck(m.m, m.key, got), api.OK)
		}
	case 7:
		*b, m.hand = reopen(), false
	}
	same(t, "Last", (*b).Last(), api.OK, m.last())
}

func compareFill(t *testing.T, b *booth.Booth, m *model, voter string, precinct int, choices [][]int) {
	t.Helper()
	want, errno := m.fill(voter, precinct, choices)
	got, e := b.Fill(voter, precinct, choices)
	same(t, "Fill", got, api.OK, want)
	same(t, "Fill", e, api.OK, errno)
}

func TestT4T5Walks(t *testing.T) {
	d := dice()
	for i := range 60 {
		kind := 1 + i%2
		disk := disk(1 + d.IntN(30))
		m := model{m: town(kind), key: key(kind), name: "one", seed: "seed", room: 64 * (disk.Sectors() - 2) / 36}
		b := opened(t, kind, disk)
		for range 60 {
			walk(t, d, &b, &m, func() *booth.Booth { return opened(t, kind, disk) })
		}
	}
}

// Booths do not know of one another.
func TestE1TwoBooths(t *testing.T) {
	d := dice()
	names := []string{"one", "two", "one"}
	booths, models := make([]*booth.Booth, 3), make([]model, 3)
	for i, name := range names {
		models[i] = model{m: town(api.Tiny), key: key(api.Tiny), name: name, seed: fmt.Sprint(i), room: 50}
		booths[i], _ = booth.Open(models[i].m, models[i].key, name, fmt.Sprint(i), disk(50))
	}
	for range 200 {
		i := d.IntN(3)
		walk(t, d, &booths[i], &models[i], func() *booth.Booth {
			kept := models[i]
			disk := diskWith(t, kept.codes...)
			b, _ := booth.Open(kept.m, kept.key, kept.name, kept.seed, disk)
			models[i].room = 64 * (disk.Sectors() - 2) / 36
			return b
		})
	}
}

func TestE2Fill(t *testing.T) {
	b := opened(t, api.Tiny, disk(10))
	m := model{m: town(api.Tiny), key: key(api.Tiny), name: "one", seed: "seed", room: 10}
	m.fill("ann", 0, townChoices())
	choices := roomyLists(townChoices())
	onlyRead(t, "Fill", choices, func() { b.Fill("ann", 0, choices) })
	for i := range choices {
		clear(choices[i])
	}
	clear(choices)
	o, e := b.Challenge()
	same(t, "Challenge, behind choices that were changed", o, e, m.opening)
	apart(t, "what is handed in and answered", o, choices)
	tells(t, "Recheck", booth.Recheck(m.m, m.key, o), api.OK)
	b.Fill("ann", 0, townChoices())
	first, _ := b.Cast()
	b.Fill("ann", 0, townChoices())
	second, _ := b.Cast()
	apart(t, "what is cast", first, second)
}
