package watch_test

import (
	"fmt"
	"reflect"
	"slices"
	"testing"

	"hustings/api"
	"hustings/fold"
	"hustings/mix"
)

// closed is a scene whose polls are closed, with some votes in all precincts.
func closed(t *testing.T, a town, voters int) *scene {
	t.Helper()
	s := sceneOf(t, a)
	s.begins(voters)
	for i := range voters {
		s.sees(s.vote(i, i, anyChoices(s.d, s.m, s.precinctOf(i))), api.OK)
	}
	s.closesPolls()
	return s
}

// TestZ5Turns: which contest is mixed when, under which label, and what comes of it; for each number of mixes.
func TestZ5Turns(t *testing.T) {
	for mixes := range 9 {
		s := closed(t, townOf(api.Tiny, func(m *api.Manifest) { m.Mixes = mixes }), 4)
		if mixes > 0 {
			_, _, rows, _ := s.w.Next()
			alike(t, "the first rows", rows, s.model.having(1, anywhere))
		}
		size := map[int]int{1: 3, 3: 2}       // so many of the four precincts have these contests
		for _, contest := range []int{1, 3} { // 0 and 2 have no ranks
			for times := range mixes {
				got, label, rows, e := s.w.Next()
				want := fold.Tag("mixed", []string{s.digest, four(contest), four(times)})
				alike(t, "Next", []any{got, label, len(rows), e}, []any{contest, want, size[contest], api.OK})
				x := s.mixes(s.d, s.w)
				s.sees(x, api.OK)
				if times+1 < mixes {
					_, _, rows, _ := s.w.Next()
					alike(t, "what came out", rows, x.mixed.Out)
				}
			}
		}
		if s.w.Phase() != api.PhaseShare {
			t.Errorf("phase %d comes", s.w.Phase())
		}
	}
}

// TestZ5Few: contests that stand on no ballot that counts are not mixed.
func TestZ5Few(t *testing.T) {
	for _, c := range []struct {
		voters []int // by which precincts' voters come
		want   []int
	}{
		{[]int{0}, []int{1, 3}}, {[]int{1}, []int{1}}, {[]int{2}, []int{3}}, {[]int{3}, []int{1}}, {[]int{1, 2}, []int{1, 3}}, {nil, nil},
	} {
		s := sceneOf(t, townOf(api.Short, nil))
		s.begins(4)
		for _, i := range c.voters {
			s.sees(s.vote(i, i, anyChoices(s.d, s.m, i)), api.OK)
		}
		s.closesPolls()
		var got []int
		for s.w.Phase() == api.PhaseMix {
			contest, _, _, _ := s.w.Next()
			got = append(got, contest)
			s.sees(s.mixes(s.d, s.w), api.OK)
		}
		alike(t, "the contests", got, c.want)
	}
}

// TestZ5Marks: without ranks nothing is mixed.
func TestZ5Marks(t *testing.T) {
	s := sceneOf(t, plainTown(api.Short, func(m *api.Manifest) { m.Mixes = 8 }))
	s.begins(1)
	s.sees(s.vote(0, 0, [][]int{{1, 0}}), api.OK)
	s.closesPolls()
	if s.w.Phase() != api.PhaseShare {
		t.Errorf("phase %d comes", s.w.Phase())
	}
}

// TestZ5Wrong: ErrRight, then what Check tells, in its order; and nothing is changed.
func TestZ5Wrong(t *testing.T) {
	s := closed(t, townOf(api.Short, func(m *api.Manifest) { m.Mixes = 2 }), 5)
	_, label, rows, _ := s.w.Next()
	right := s.mixes(s.d, s.w)
	faults := []struct {
		e  api.Errno
		do func(x *thing)
	}{
		{api.ErrForm, func(x *thing) { x.mixed = api.Mixed{} }},
		{api.ErrForm, func(x *thing) { x.mixed.Pairs = x.mixed.Pairs[1:] }},
		{api.ErrForm, func(x *thing) { x.mixed.Proofs = append(x.mixed.Proofs, api.Either{}) }},
		{api.ErrForm, func(x *thing) { x.mixed.Pairs[0][1] = x.mixed.Pairs[0][1][1:] }},
		{api.ErrElem, func(x *thing) { x.mixed.Pairs[0][0][0].A = scalar(api.Short, 0) }},
		{api.ErrForm, func(x *thing) { x.mixed.Out = x.mixed.Out[1:] }},
		{api.ErrForm, func(x *thing) { slices.Reverse(x.mixed.Out) }},
		{api.ErrProof, func(x *thing) { x.mixed.Proofs[0], x.mixed.Proofs[1] = x.mixed.Proofs[1], x.mixed.Proofs[0] }},
		{api.ErrProof, func(x *thing) { x.mixed.Proofs[0] = api.Either{} }},
		{api.ErrProof, func(x *thing) { x.mixed, _ = mix.Mix(s.m.Kind, s.key, label+"x", rows, crossings(5), "seed") }},
		{api.ErrProof, func(x *thing) { x.mixed, _ = mix.Mix(s.m.Kind, s.m.Clerk, label, rows, crossings(5), "seed") }},
		{api.ErrProof, func(x *thing) {
			other := roomy(rows)
			other[0] = other[1]
			x.mixed, _ = mix.Mix(s.m.Kind, s.key, label, other, crossings(5), "seed")
		}},
	}
	for i, f := range faults {
		x := right.roomy()
		f.do(&x)
		if e := s.see(x); e != f.e {
			t.Errorf("%d: error %d comes, not %d", i, e, f.e)
		}
		for _, contest := range []int{0, 2, 3, 4, 1 << 32, 1 << 40} {
			x.contest = contest
			if e := s.see(x); e != api.ErrRight {
				t.Errorf("%d: error %d comes", i, e)
			}
		}
	}
	s.sees(right, api.OK)
	s.sees(right, api.ErrProof) // the label of the second mix is another one
	s.sees(s.mixes(s.d, s.w), api.OK)
	s.sees(right, api.ErrRight)
}

// crossings crosses no gate.
func crossings(rows int) []bool {
	gates, _ := mix.Plan(rows - 1) // one voter of five has no council on the ballot
	return make([]bool, len(gates))
}

// TestZ5One: a row by itself goes through no gate.
func TestZ5One(t *testing.T) {
	s := sceneOf(t, townOf(api.Short, func(m *api.Manifest) { m.Mixes = 2 }))
	s.begins(4)
	s.sees(s.vote(1, 1, [][]int{{0, 2, 1}, {0, 1}}), api.OK)
	s.closesPolls()
	for times := range 2 {
		contest, _, rows, e := s.w.Next()
		if contest != 1 || len(rows) != 1 || e != api.OK {
			t.Fatal(fmt.Sprint("mix ", times, ": contest ", contest, ", rows ", len(rows), ", error ", e))
		}
		s.sees(thing{kind: "mix", contest: 1}, api.ErrForm)
		s.sees(thing{kind: "mix", contest: 1, mixed: api.Mixed{Out: rows}}, api.OK)
	}
	s.ends()
	out, _ := s.w.Outcome()
	alike(t, "Ranks", out.Results[1].Ranks, [][]int{{0, 2, 1}})
}

// TestE2Next: what is answered is new memory each time.
func TestE2Next(t *testing.T) {
	s := closed(t, townOf(api.Short, nil), 4)
	_, _, one, _ := s.w.Next()
	_, _, two, _ := s.w.Next()
	apart(t, "Next", one, two)
	spoil(reflect.ValueOf(&one).Elem())
	_, _, three, _ := s.w.Next()
	alike(t, "Next", three, two)
	s.agree()
	s.ends()
}
