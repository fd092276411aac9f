package booth_test

import (
	"fmt"
	"testing"

	"hustings/api"
	"hustings/booth"
	"hustings/plain"
)

// night is what was shown of a booth while its power went again and again.
type night struct {
	codes  []string // that were shown, in their order
	nonces []string // what BASE to the nonces is, of all ballots that were given out
	seeds  []string
}

// hour fills ballots till the power goes, or there are enough; every second one is looked into.
func (n *night) hour(t *testing.T, b *booth.Booth, ballots int) (off bool) {
	t.Helper()
	for i := range ballots {
		code, e := b.Fill(fmt.Sprint("v", i), i%4, anyChoices(dice(), town(api.Short), i%4))
		if e != api.OK {
			fails(t, "Fill", code, e, api.ErrPower)
			n.dark(t, b)
			return true
		}
		n.codes = append(n.codes, code)
		n.give(t, b, i%2 == 0)
	}
	return false
}

// give gives a ballot out: no other one has its seed, or its nonces.
func (n *night) give(t *testing.T, b *booth.Booth, cast bool) {
	t.Helper()
	if !cast {
		o, e := b.Challenge()
		if e != api.OK || seen(&n.seeds, o.Seed) {
			t.Errorf("Challenge: error %d, or a seed that came before", e)
		}
		tells(t, "Recheck", booth.Recheck(town(api.Short), key(api.Short), o), api.OK)
		return
	}
	c, e := b.Cast()
	tells(t, "Cast", e, api.OK)
	for _, p := range c.Ballot.Parts {
		for _, cipher := range p.Ciphers {
			if seen(&n.nonces, cipher.A) {
				t.Error("a nonce came before")
			}
		}
	}
}

// dark: when the power is off nothing is in hand, what is wrong is told as ever, and the last code that was shown is told.
func (n *night) dark(t *testing.T, b *booth.Booth) {
	t.Helper()
	c, e := b.Cast()
	fails(t, "Cast, without power", c, e, api.ErrState)
	o, e := b.Challenge()
	fails(t, "Challenge, without power", o, e, api.ErrState)
	for _, w := range wrongs() {
		code, e := b.Fill(w.voter, w.precinct, w.choices)
		fails(t, "without power, "+w.what, code, e, w.e)
	}
	code, e := b.Fill("ann", 0, townChoices())
	fails(t, "Fill, without power", code, e, api.ErrPower)
	if len(n.codes) > 0 {
		same(t, "Last, without power", b.Last(), api.OK, n.codes[len(n.codes)-1])
	}
}

// found: behind a loss of power the last code is the last that was shown, or one that was not shown yet.
func (n *night) found(t *testing.T, b *booth.Booth) {
	t.Helper()
	last := b.Last()
	for i, code := range n.codes {
		if code == last && i < len(n.codes)-1 {
			t.Errorf("codes are lost: %d of %d are there", i+1, len(n.codes))
		}
	}
	c, e := b.Cast()
	fails(t, "Cast, behind a loss of power", c, e, api.ErrState)
}

// The power goes at each call of the disk; it comes back in several ways, goes and comes back again.
func TestT4Power(t *testing.T) {
	ways := [][]bool{nil, {true}, {true, false}, {false, true}, {false, false, true}}
	done := false
	for power := 0; !done; power++ {
		if power > 100 {
			t.Fatal("the power is never enough")
		}
		for _, first := range ways {
			for _, second := range ways[:2] {
				var n night
				d := plain.NewDisk(40, power)
				b := opened(t, api.Short, d)
				done = !n.hour(t, b, 4)
				d = d.After(first, power/2+1)
				b, e := booth.Open(town(api.Short), key(api.Short), "one", "seed", d)
				if e == api.OK {
					n.found(t, b)
					n.hour(t, b, 3)
				} else {
					fails(t, "Open", b, e, api.ErrPower)
				}
				b = opened(t, api.Short, d.After(second, -1))
				n.found(t, b)
				if n.hour(t, b, 3) {
					t.Error("the power goes where there is enough")
				}
			}
		}
	}
}

// A booth goes on behind the code that it finds, wherever the power has gone.
func TestT4PowerBehind(t *testing.T) {
	for power := range 30 {
		d := plain.NewDisk(40, power)
		b := opened(t, api.Tiny, d)
		for range 10 { // more than the power is enough for
			b.Fill("ann", 0, townChoices())
			b.Cast()
		}
		for _, keep := range [][]bool{nil, {true}} {
			b = opened(t, api.Tiny, d.After(keep, -1))
			last := b.Last()
			b.Fill("bob", 0, townChoices())
			c, e := b.Cast()
			same(t, "the code ahead", c.Prev, e, last)
			same(t, "the code", c.Code, e, codeModel(last, c.Ballot))
		}
	}
}
