package watch_test

import (
	"fmt"
	"slices"
	"testing"

	"hustings/api"
	"hustings/board"
	"hustings/fold"
	"hustings/roll"
	"hustings/watch"
)

// TestZ2Election: a whole one, of each kind, with all that is told at each step.
func TestZ2Election(t *testing.T) {
	kinds(t, func(t *testing.T, kind int) {
		voters := 6
		if kind == api.Full {
			voters = 2
		}
		s := sceneOf(t, townOf(kind, nil))
		s.agree()
		s.begins(voters)
		for i := range voters {
			s.sees(s.vote(i, i, anyChoices(s.d, s.m, s.precinctOf(i))), api.OK)
		}
		s.sees(s.opens("anybody", 2, [][]int{{2, 1}}, 99), api.OK)
		s.closesPolls()
		s.ends()
	})
}

// TestZ2State: each kind of entries in each phase: where it can't come, ErrState; a right one where it can, OK.
func TestZ2State(t *testing.T) {
	for phase := api.PhaseNone; phase <= api.PhaseDone; phase++ {
		for _, kind := range append(formed(), "manifest") {
			s := sceneOf(t, townOf(api.Short, nil))
			s.goesTo(phase)
			want := api.ErrState
			if phaseOf(kind) == phase {
				want = api.OK
			}
			s.sees(s.right(kind), want)
		}
	}
}

// goesTo goes on up to a phase; there is more to do in it.
func (s *scene) goesTo(phase int) {
	s.t.Helper()
	steps := []func(){
		func() { s.sees(thing{kind: "manifest", m: s.m}, api.OK) },
		func() { s.sees(s.joins(0, "v0", 0, voterSecret(0)), api.OK); s.opensPolls() },
		func() { s.sees(s.vote(0, 0, [][]int{{1, 0, 0}, {1, 2, 0}, {1, 1}, {2, 1}}), api.OK); s.closesPolls() },
		func() { s.sees(s.mixes(s.d, s.w), api.OK); s.sees(s.mixes(s.d, s.w), api.OK) },
		func() { s.ends() },
	}
	for _, step := range steps[:phase] {
		step()
	}
	if s.w.Phase() != phase {
		s.t.Fatalf("phase %d comes, not %d", s.w.Phase(), phase)
	}
}

// right is an entry of a kind that is right where it can come.
func (s *scene) right(kind string) thing {
	switch kind {
	case "manifest":
		return thing{kind: kind, m: s.m}
	case "change":
		return s.joins(0, "v0", 0, voterSecret(0))
	case "open", "close":
		return s.pollsNow(kind)
	case "cast":
		return s.vote(0, 7, [][]int{{1, 0, 0}, {1, 2, 0}, {1, 1}, {2, 1}})
	case "opened":
		return s.opens("v0", 0, [][]int{{1, 0, 0}, {1, 2, 0}, {1, 1}, {2, 1}}, 8)
	case "mix":
		if s.w.Phase() == api.PhaseMix {
			return s.mixes(s.d, s.w)
		}
		return thing{kind: kind, contest: 1}
	}
	if len(s.w.Wanted()) > 0 {
		return s.shares(s.w, 0, 1)
	}
	return thing{kind: kind}
}

// TestZ2Head: the head of a record of any length, held against the board's.
func TestZ2Head(t *testing.T) {
	a := townOf(api.Tiny, nil)
	w := watch.New()
	var texts []string
	for i := range 140 {
		blocks, _ := board.Blocks(texts, 0, len(texts))
		want, _ := board.Head(len(texts), blocks)
		if n, got := w.Head(); n != len(texts) || got != want {
			t.Errorf("%d, %x come, not %d, %x", n, got, len(texts), want)
		}
		x := thing{kind: "manifest", m: a.m}
		switch {
		case i == 1:
			x = a.joins(0, "ann", 0, 200)
		case i > 1:
			x = a.changes(i-1, api.Change{Do: api.ChangeMove, Id: "ann", Precinct: i % 4})
		}
		text, _ := x.form()
		if e := w.See(text); e != api.OK {
			t.Fatal(i, e)
		}
		texts = append(texts, text)
	}
}

// TestZ2None: of one that has seen nothing.
func TestZ2None(t *testing.T) {
	w := watch.New()
	n, head := w.Head()
	contest, label, rows, e := w.Next()
	out, outE := w.Outcome()
	got := []any{w.Phase(), n, head, contest, label, rows, e, w.Wanted(), w.Label(0), out, outE}
	want := []any{0, 0, fold.Tag("head", []string{four(0)}), 0, "", [][]api.Cipher{}, api.ErrState, []api.Cipher{}, "", api.Outcome{}, api.ErrState}
	alike(t, "New", got, want)
}

// TestZ3Manifest: trustees who don't give the same key are told so, and another manifest can come.
func TestZ3Manifest(t *testing.T) {
	kinds(t, func(t *testing.T, kind int) {
		s := sceneOf(t, townOf(kind, nil))
		wrong := roomy(s.m)
		wrong.Trustees[2] = public(kind, 5)
		s.sees(thing{kind: "manifest", m: wrong}, api.ErrProof)
		wrong.Need = 3 // then there is one choice alone
		s.sees(thing{kind: "manifest", m: wrong}, api.OK)
		s.sees(thing{kind: "manifest", m: s.m}, api.ErrState)
	})
}

// TestZ3Change: what Apply tells, each errno of it, and that what is not OK changes nothing.
func TestZ3Change(t *testing.T) {
	s := sceneOf(t, townOf(api.Short, nil))
	s.sees(thing{kind: "manifest", m: s.m}, api.OK)
	s.sees(s.joins(1, "ann", 0, 200), api.ErrProof)
	s.sees(s.joins(0, "ann", 0, 200), api.OK)
	s.sees(s.joins(0, "bob", 0, 201), api.ErrProof)
	s.sees(s.joins(1, "ann", 0, 201), api.ErrTwice)
	s.sees(s.joins(1, "bob", 0, 200), api.ErrTwice)
	s.sees(s.joins(1, "b b", 0, 201), api.ErrForm)
	s.sees(s.joins(1, "bob", 4, 201), api.ErrRange)
	s.sees(s.changes(1, api.Change{Do: api.ChangeJoin, Id: "bob"}), api.ErrElem)
	s.sees(s.changes(1, api.Change{Do: 5, Id: "bob"}), api.ErrForm)
	s.sees(s.changes(1, api.Change{Do: api.ChangeMove, Id: "bob", Precinct: 1}), api.ErrNone)
	s.sees(s.joins(1, "bob", 1, 201), api.OK)
	s.sees(s.changes(2, api.Change{Do: api.ChangeMove, Id: "bob", Precinct: 3}), api.OK)
	s.sees(s.changes(3, api.Change{Do: api.ChangeKey, Id: "bob", Key: public(api.Short, 202)}), api.OK)
	s.sees(s.changes(4, api.Change{Do: api.ChangeStrike, Id: "ann"}), api.OK)
	s.opensPolls()
	all := [][]int{{1, 0, 0}, {0, 0, 0}, {1, 1}, {0, 0}}
	some := [][]int{{0, 0, 0}, {1, 1}}
	s.sees(s.casts("ann", 0, 200, all, 1), api.ErrRight)  // struck
	s.sees(s.casts("bob", 1, 202, some, 2), api.ErrRight) // moved
	s.sees(s.casts("bob", 3, 201, some, 3), api.ErrProof) // another key
	s.sees(s.casts("bob", 3, 202, some, 4), api.OK)
	s.sees(s.changes(5, api.Change{Do: api.ChangeMove, Id: "bob", Precinct: 0}), api.ErrState)
}

// TestZ3Polls: of a stamp that is not right, or not of the record as it is.
func TestZ3Polls(t *testing.T) {
	for _, kind := range []int{api.Short, api.Full} {
		for _, polls := range []string{"open", "close"} {
			s := sceneOf(t, townOf(kind, nil))
			s.goesTo(phaseOf(polls))
			right := s.pollsNow(polls).stamp
			size, head := s.w.Head()
			by := func(secret int, name string, size int, head string) api.Stamp {
				x, e := board.Sign(kind, scalar(kind, secret), name, size, head, "seed")
				if e != api.OK {
					t.Fatal("Sign", e)
				}
				return x
			}
			wrong := []api.Stamp{
				{},
				{Size: size, Head: head},
				by(registrar, s.digest, size, head),
				by(clerk, s.m.Name, size, head),
				by(clerk, "", size, head),
				by(clerk, s.digest, size+1, head),
				by(clerk, s.digest, size-1, head),
				by(clerk, s.digest, size, fold.Digest("another head")),
				by(clerk, s.digest, 0, watchHead()),
				{Size: size + 1, Head: head, Sign: right.Sign},
				{Size: size + 1<<32, Head: head, Sign: right.Sign},
				{Size: 1 << 40, Head: head, Sign: right.Sign},
				{Size: size, Head: head[1:], Sign: right.Sign},
				{Size: size, Head: "", Sign: right.Sign},
				{Size: size, Head: head, Sign: api.Proof{Challenge: right.Sign.Challenge}},
				{Size: size, Head: head, Sign: api.Proof{Challenge: right.Sign.Answers[0], Answers: []string{right.Sign.Challenge}}},
			}
			for i, x := range wrong {
				if e := s.see(thing{kind: polls, stamp: x}); e != api.ErrProof {
					t.Errorf("%s %d: error %d comes", polls, i, e)
				}
			}
			s.sees(thing{kind: polls, stamp: right}, api.OK)
			s.sees(thing{kind: polls, stamp: right}, api.ErrState)
		}
	}
}

// watchHead is the head of a record without entries.
func watchHead() string {
	_, h := watch.New().Head()
	return h
}

// TestZ3Old: a stamp of an older head is not right any more.
func TestZ3Old(t *testing.T) {
	s := sceneOf(t, townOf(api.Short, nil))
	s.goesTo(api.PhaseRoll)
	old := s.pollsNow("open")
	s.sees(s.right("change"), api.OK)
	s.sees(old, api.ErrProof)
	s.opensPolls()
	old = s.pollsNow("close")
	s.sees(s.right("opened"), api.OK)
	s.sees(old, api.ErrProof)
	s.closesPolls()
}

// TestZ3Empty: polls that nobody came to: nothing is to be mixed, and nothing to be opened.
func TestZ3Empty(t *testing.T) {
	for _, mixes := range []int{0, 3} {
		s := sceneOf(t, townOf(api.Short, func(m *api.Manifest) { m.Mixes = mixes }))
		s.begins(1)
		s.closesPolls()
		if s.w.Phase() != api.PhaseDone {
			t.Errorf("phase %d comes", s.w.Phase())
		}
		out, e := s.w.Outcome()
		if e != api.OK || len(out.Results) != 4 {
			t.Fatalf("%v comes, error %d", out, e)
		}
		alike(t, "the totals", out.Results[0].Totals, [][]int{{0, 0, 0}, {0, 0, 0}, {0, 0, 0}, {0, 0, 0}})
		for i, r := range out.Results {
			if r.Ballots != 0 || r.Blank != 0 || len(r.Ranks) != 0 || len(r.Elected) != s.m.Contests[i].Seats {
				t.Errorf("%d: %v comes", i, r)
			}
		}
	}
}

// TestE1Apart: several watchers do not know of one another, and what one is told of is the same whoever else watches.
func TestE1Apart(t *testing.T) {
	var records [][]string
	for i := range 2 {
		a := townOf(api.Short, func(m *api.Manifest) { m.Name = fmt.Sprint("town-", i) })
		s := sceneOf(t, a)
		s.begins(4)
		for k := range 4 {
			s.sees(s.vote(k, k+10*i, anyChoices(s.d, s.m, s.precinctOf(k))), api.OK)
		}
		s.closesPolls()
		s.ends()
		records = append(records, s.model.texts)
	}
	alone := []*watch.Watcher{watch.New(), watch.New()}
	for i, w := range alone {
		for _, text := range records[i] {
			w.See(text)
		}
	}
	both := []*watch.Watcher{watch.New(), watch.New()}
	for k := range max(len(records[0]), len(records[1])) {
		for i, w := range both {
			if k < len(records[i]) {
				if e := w.See(records[i][k]); e != api.OK {
					t.Errorf("entry %d of %d: error %d", k, i, e)
				}
			}
		}
	}
	for i := range both {
		got, e := both[i].Outcome()
		want, wantE := alone[i].Outcome()
		alike(t, "Outcome", []any{got, e}, []any{want, wantE})
		size, head := both[i].Head()
		wantSize, wantHead := alone[i].Head()
		alike(t, "Head", []any{size, head}, []any{wantSize, wantHead})
	}
}

// TestE5Again: an entry that was refused can come again, when it is right.
func TestE5Again(t *testing.T) {
	s := sceneOf(t, townOf(api.Short, nil))
	s.goesTo(api.PhaseRoll)
	s.sees(s.joins(0, "v0", 0, voterSecret(0)), api.OK)
	early := s.right("cast")
	s.sees(early, api.ErrState) // told ahead of the opening of the polls
	s.opensPolls()
	s.sees(early, api.OK)
	text, _ := roll.Form(s.m)
	if !slices.Contains(s.model.texts, text) {
		t.Error("the manifest is not in the record")
	}
}
