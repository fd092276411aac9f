package watch_test

import (
	"fmt"
	"reflect"
	"slices"
	"testing"

	"hustings/api"
	"hustings/ballot"
	"hustings/fold"
	"hustings/tally"
	"hustings/watch"
)

// TestZ6Wanted: which ciphers are wanted, and in which order: by hand.
func TestZ6Wanted(t *testing.T) {
	s := sceneOf(t, townOf(api.Short, func(m *api.Manifest) { m.Mixes = 0 }))
	s.begins(8)
	// Precincts: 0 and 4 are in north, 1 and 5 in south, 3 in east; nobody in west comes.
	order := []int{4, 3, 5, 0, 1}
	parts := map[int][]api.Part{}
	for n, i := range order {
		x := s.vote(i, n, anyChoices(s.d, s.m, s.precinctOf(i)))
		parts[i] = x.cast.Ballot.Parts
		s.sees(x, api.OK)
		if len(s.w.Wanted()) != 0 || s.w.Label(0) != "" {
			t.Error("something is wanted while the polls are open")
		}
	}
	s.closesPolls()
	var want []api.Cipher
	sum := func(part int, at int, voters ...int) {
		options := len(parts[voters[0]][part].Ciphers)
		for option := range options {
			var l []api.Cipher
			for _, i := range voters {
				p := part
				if s.precinctOf(i) != 0 {
					p = at
				}
				l = append(l, parts[i][p].Ciphers[option])
			}
			c, _ := ballot.Sum(s.m.Kind, l)
			want = append(want, c)
		}
	}
	sum(0, 0, 4, 0) // mayor, in north
	for _, row := range [][]api.Cipher{parts[4][1].Ciphers, parts[3][0].Ciphers, parts[5][0].Ciphers, parts[0][1].Ciphers, parts[1][0].Ciphers} {
		want = append(want, row...) // council
	}
	sum(2, 1, 4, 0) // parks, in north
	sum(1, 1, 5, 1) // in south
	sum(1, 1, 3)    // in east
	want = append(append(want, parts[4][3].Ciphers...), parts[0][3].Ciphers...)
	alike(t, "Wanted", s.w.Wanted(), want)
	for i := range want {
		alike(t, "Label", s.w.Label(i), fold.Tag("want", []string{s.digest, four(i)}))
	}
	s.ends()
	alike(t, "Wanted in the end", s.w.Wanted(), want)
	alike(t, "Label in the end", s.w.Label(1), fold.Tag("want", []string{s.digest, four(1)}))
	alike(t, "Label of none", s.w.Label(len(want)), "")
}

// TestZ6Mixed: behind mixes, what the last one gave.
func TestZ6Mixed(t *testing.T) {
	s := closed(t, townOf(api.Short, func(m *api.Manifest) { m.Mixes = 2 }), 4)
	outs := map[int][][]api.Cipher{}
	for s.w.Phase() == api.PhaseMix {
		if len(s.w.Wanted()) != 0 || s.w.Label(0) != "" {
			t.Error("something is wanted ahead of the last mix")
		}
		x := s.mixes(s.d, s.w)
		s.sees(x, api.OK)
		outs[x.contest] = x.mixed.Out
	}
	wanted := s.w.Wanted()
	alike(t, "council", wanted[3:12], slices.Concat(outs[1]...))
	alike(t, "bridge", wanted[len(wanted)-4:], slices.Concat(outs[3]...))
}

// TestZ6Wrong: ErrRange, ErrFull, ErrTwice, ErrProof, in this order.
func TestZ6Wrong(t *testing.T) {
	s := closed(t, townOf(api.Short, func(m *api.Manifest) { m.Mixes = 0 }), 2)
	n := len(s.w.Wanted())
	right := s.shares(s.w, 1, 2)
	for _, none := range []int{n, n + 1, 1 << 32, 1<<32 + 1, 1 << 40} {
		x := right
		x.which = none
		s.sees(x, api.ErrRange)
		x.share = api.Share{}
		s.sees(x, api.ErrRange)
	}
	wrong := func() []api.Share {
		other := func(do func(x *api.Share)) api.Share {
			x := roomy(right.share)
			do(&x)
			return x
		}
		label, c := s.w.Label(1), s.w.Wanted()[1]
		anotherLabel, _ := tally.Share(s.m, label+"x", 2, s.secrets[1], c, "seed")
		noLabel, _ := tally.Share(s.m, "", 2, s.secrets[1], c, "seed")
		return []api.Share{
			anotherLabel, noLabel,
			s.shares(s.w, 0, 2).share,
			s.shares(s.w, 2, 2).share,
			other(func(x *api.Share) { x.Value = scalar(api.Short, 1) }),
			other(func(x *api.Share) { x.Value = "" }),
			other(func(x *api.Share) { x.Proof = api.Proof{} }),
			other(func(x *api.Share) { x.Proof.Answers[0] = scalar(api.Short, 1) }),
		}
	}
	for i, x := range wrong() {
		if e := s.see(thing{kind: "share", which: 1, share: x}); e != api.ErrProof {
			t.Errorf("%d: error %d comes", i, e)
		}
	}
	for _, trustee := range []int{0, 1, 3, 4, 9, 1 << 40} {
		x := right
		x.share.Trustee = trustee
		s.sees(x, api.ErrProof)
	}
	s.sees(right, api.OK)
	s.sees(right, api.ErrTwice)
	for i, x := range wrong() {
		if e := s.see(thing{kind: "share", which: 1, share: x}); e != api.ErrTwice {
			t.Errorf("%d: error %d comes", i, e)
		}
	}
	s.sees(s.shares(s.w, 1, 3), api.OK)
	for trustee := range 5 {
		x := right
		x.share.Trustee = trustee
		s.sees(x, api.ErrFull)
	}
	s.sees(s.shares(s.w, 1, 1), api.ErrFull)
	s.sees(s.shares(s.w, 0, 1), api.OK)
}

// TestZ6Order: shares come in any order; the last one that is needed ends it.
func TestZ6Order(t *testing.T) {
	for need := 1; need <= 3; need++ {
		s := closed(t, townOf(api.Tiny, func(m *api.Manifest) { m.Need = need }), 3)
		for s.w.Phase() == api.PhaseMix {
			s.sees(s.mixes(s.d, s.w), api.OK)
		}
		var todo []thing
		for i := range s.w.Wanted() {
			for _, k := range s.d.Perm(3)[:need] {
				todo = append(todo, s.shares(s.w, i, k+1))
			}
		}
		for n, k := range s.d.Perm(len(todo)) {
			if s.w.Phase() != api.PhaseShare {
				t.Fatalf("phase %d comes behind %d shares", s.w.Phase(), n)
			}
			s.sees(todo[k], api.OK)
		}
		if s.w.Phase() != api.PhaseDone {
			t.Errorf("phase %d comes in the end", s.w.Phase())
		}
		s.sees(todo[0], api.ErrState)
	}
}

// TestZ6Whoever: whoever of the trustees come together open the same.
func TestZ6Whoever(t *testing.T) {
	s := closed(t, townOf(api.Short, nil), 5)
	for s.w.Phase() == api.PhaseMix {
		s.sees(s.mixes(s.d, s.w), api.OK)
	}
	var told []string
	for _, pair := range [][]int{{1, 2}, {2, 1}, {1, 3}, {3, 2}} {
		w := watch.New()
		for _, text := range s.model.texts {
			if e := w.See(text); e != api.OK {
				t.Fatal("See", e)
			}
		}
		for i := range w.Wanted() {
			for _, trustee := range pair {
				text, _ := s.shares(w, i, trustee).form()
				if e := w.See(text); e != api.OK {
					t.Fatal("See", e)
				}
			}
		}
		out, e := w.Outcome()
		told = append(told, fmt.Sprint(out, e))
	}
	if len(slices.Compact(slices.Clone(told))) != 1 {
		t.Errorf("several come: %v", told)
	}
}

// TestE2Wanted: what is answered is new memory each time.
func TestE2Wanted(t *testing.T) {
	s := closed(t, townOf(api.Short, func(m *api.Manifest) { m.Mixes = 0 }), 2)
	one, two := s.w.Wanted(), s.w.Wanted()
	apart(t, "Wanted", one, two)
	spoil(reflect.ValueOf(&one).Elem())
	alike(t, "Wanted", s.w.Wanted(), two)
	s.ends()
}
