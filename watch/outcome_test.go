package watch_test

import (
	"math/rand/v2"
	"reflect"
	"slices"
	"testing"

	"hustings/api"
	"hustings/ballot"
	"hustings/booth"
	"hustings/count"
	"hustings/fold"
	"hustings/group"
	"hustings/sigma"
	"hustings/watch"
)

// TestZ7ByHand: what comes of few votes.
func TestZ7ByHand(t *testing.T) {
	for _, mixes := range []int{0, 2} {
		s := sceneOf(t, townOf(api.Short, func(m *api.Manifest) { m.Mixes = mixes }))
		s.begins(8)
		for i, choices := range [][][]int{
			{{1, 1, 0}, {1, 2, 3}, {0, 1}, {1, 2}},
			{{3, 1, 2}, {1, 1}},
			{{2, 1}},
			{{0, 0, 0}, {0, 1}},
			{{0, 1, 0}, {0, 1, 0}, {0, 0}, {0, 1}},
			{{0, 0, 1}, {0, 1}},
			{{0, 0}},
		} {
			s.sees(s.vote(i, i, choices), api.OK)
		}
		s.closesPolls()
		s.ends()
		got, e := s.w.Outcome()
		want := api.Outcome{Results: []api.Result{
			{Ballots: 2, Totals: [][]int{{1, 2, 0}, {0, 0, 0}, {0, 0, 0}, {0, 0, 0}}, Elected: []int{1}},
			{Ballots: 5, Blank: 1, Ranks: [][]int{{0, 0, 0}, {0, 0, 1}, {0, 1, 0}, {1, 2, 3}, {3, 1, 2}}, Elected: []int{1, 2}},
			{Ballots: 5, Totals: [][]int{{0, 1}, {1, 2}, {0, 0}, {0, 1}}, Elected: []int{1}},
			{Ballots: 4, Blank: 1, Ranks: [][]int{{0, 0}, {0, 1}, {1, 2}, {2, 1}}, Elected: []int{1}},
		}}
		elected, _ := count.Elect(s.m.Contests[1], want.Results[1].Ranks, s.m.Lots)
		want.Results[1].Elected = elected
		alike(t, "Outcome", []any{got, e}, []any{want, api.OK})
	}
}

// TestZ7Votes: what is told is what was marked, whoever votes what; worked out of the marks alone.
func TestZ7Votes(t *testing.T) {
	for seed := range uint64(6) {
		d := dice(seed)
		s := sceneOf(t, townOf(api.Tiny+int(seed%2), func(m *api.Manifest) {
			m.Again, m.Mixes, m.Lots = seed%3 == 0, int(seed%3), anyText(d, 10)
		}))
		s.begins(9)
		votes := map[int][][]int{}
		for n := range 14 {
			i := d.IntN(9)
			choices := anyChoices(d, s.m, s.precinctOf(i))
			if e := s.see(s.vote(i, n, choices)); e == api.OK {
				votes[i] = choices
			}
		}
		s.closesPolls()
		s.ends()
		got, e := s.w.Outcome()
		alike(t, "Outcome", []any{got, e}, []any{s.told(votes), api.OK})
	}
}

// told is what must come of votes.
func (s *scene) told(votes map[int][][]int) api.Outcome {
	var out api.Outcome
	for contest, c := range s.m.Contests {
		r := api.Result{}
		totals := make([][]int, len(s.m.Precincts))
		sums := make([]int, len(c.Options))
		for p := range totals {
			totals[p] = make([]int, len(c.Options))
		}
		for i, choices := range votes {
			p := s.precinctOf(i)
			at := slices.Index(s.m.Styles[s.m.Precincts[p].Style].Contests, contest)
			if at < 0 {
				continue
			}
			r.Ballots++
			r.Ranks = append(r.Ranks, choices[at])
			if slices.Max(choices[at]) == 0 {
				r.Blank++
			}
			for option, n := range choices[at] {
				totals[p][option] += n
				sums[option] += n
			}
		}
		if ranks(c) {
			slices.SortFunc(r.Ranks, slices.Compare[[]int])
			r.Elected, _ = count.Elect(c, r.Ranks, s.m.Lots)
		} else {
			r.Ranks, r.Blank, r.Totals = nil, 0, totals
			r.Elected, _ = count.Most(c, sums, s.m.Lots)
		}
		out.Results = append(out.Results, r)
	}
	return out
}

// woven is a ballot whose options are taken from ballots with these choices, by turns: each number is one that it may be, all
// together may not fit.
func (s *scene) woven(i, n int, a, b [][]int, from func(part, option int) bool) thing {
	one, two := s.vote(i, n, a).cast, s.vote(i, n+1000, b).cast
	for p := range one.Ballot.Parts {
		for option := range one.Ballot.Parts[p].Ciphers {
			if from(p, option) {
				one.Ballot.Parts[p].Ciphers[option] = two.Ballot.Parts[p].Ciphers[option]
				one.Ballot.Parts[p].Proofs[option] = two.Ballot.Parts[p].Proofs[option]
			}
		}
	}
	one.Code, _ = booth.Code(one.Prev, one.Ballot)
	return s.signed(one, voterSecret(i))
}

// TestZ7Blank: ranks that do not fit are told as they are, and are blank.
func TestZ7Blank(t *testing.T) {
	s := sceneOf(t, townOf(api.Short, nil))
	s.begins(8)
	second := func(_, option int) bool { return option == 1 }
	// Only ranks are woven: the sum of the marks is proven.
	s.sees(s.woven(1, 1, [][]int{{1, 2, 0}, {1, 0}}, [][]int{{2, 1, 0}, {1, 0}}, func(p, o int) bool { return p == 0 && second(p, o) }), api.OK) // 1, 1, 0
	s.sees(s.woven(3, 3, [][]int{{0, 0, 0}, {1, 0}}, [][]int{{2, 3, 1}, {1, 0}}, func(p, o int) bool { return p == 0 && second(p, o) }), api.OK) // 0, 3, 0
	s.sees(s.woven(2, 5, [][]int{{1, 2}}, [][]int{{2, 1}}, second), api.OK)                                                                      // 1, 1
	s.sees(s.vote(6, 7, [][]int{{0, 0}}), api.OK)
	s.sees(s.vote(5, 8, [][]int{{0, 2, 1}, {0, 1}}), api.OK)
	s.closesPolls()
	s.ends()
	out, e := s.w.Outcome()
	if e != api.OK {
		t.Fatal("Outcome", e)
	}
	alike(t, "council", []any{out.Results[1].Ranks, out.Results[1].Blank, out.Results[1].Ballots}, []any{[][]int{{0, 2, 1}, {0, 3, 0}, {1, 1, 0}}, 2, 3})
	alike(t, "bridge", []any{out.Results[3].Ranks, out.Results[3].Blank, out.Results[3].Ballots}, []any{[][]int{{0, 0}, {1, 1}}, 2, 2})
}

// forged is a ballot in the smallest group in which an option hides a number that it may not, with a proof that is right by
// chance.
func (s *scene) forged(d *rand.Rand, i, n, part, option, x int, choices [][]int) thing {
	kind := s.m.Kind
	c := s.vote(i, n, choices).cast
	p := s.precinctOf(i)
	contest := s.m.Styles[s.m.Precincts[p].Style].Contests[part]
	top := 1
	if ranks(s.m.Contests[contest]) {
		top = len(s.m.Contests[contest].Options)
	}
	cipher, _ := ballot.Encrypt(kind, s.key, scalar(kind, x), scalar(kind, 100+n))
	label := fold.Tag("ballot", []string{s.digest, voterId(i), four(p), four(contest), four(option)})
	base, _ := group.Base(kind)
	var sets [][]api.Claim
	for v := range top + 1 {
		power, _ := group.Power(kind, base, scalar(kind, v))
		under, _ := group.Under(kind, power)
		left, _ := group.Times(kind, cipher.B, under)
		sets = append(sets, []api.Claim{{Bases: []string{base, s.key}, Images: []string{cipher.A, left}}})
	}
	for {
		var proof api.Either
		for range sets {
			proof.Challenges = append(proof.Challenges, scalar(kind, d.IntN(641)))
			proof.Answers = append(proof.Answers, []string{scalar(kind, d.IntN(641))})
		}
		if sigma.VerifyAny(kind, label, sets, proof) {
			c.Ballot.Parts[part].Ciphers[option], c.Ballot.Parts[part].Proofs[option] = cipher, proof
			c.Code, _ = booth.Code(c.Prev, c.Ballot)
			return s.signed(c, voterSecret(i))
		}
	}
}

// TestZ7NoRank: a number that is none of those that are looked for is -1.
func TestZ7NoRank(t *testing.T) {
	for _, mixes := range []int{0, 1} {
		s := sceneOf(t, townOf(api.Tiny, func(m *api.Manifest) { m.Mixes = mixes }))
		s.begins(8)
		s.sees(s.vote(0, 0, [][]int{{1, 0, 0}, {2, 1, 3}, {0, 0}, {1, 2}}), api.OK)
		s.sees(s.forged(s.d, 1, 1, 0, 2, 4, [][]int{{1, 2, 3}, {1, 1}}), api.OK)
		s.sees(s.forged(s.d, 2, 2, 0, 0, 640, [][]int{{2, 1}}), api.OK)
		s.sees(s.forged(s.d, 5, 3, 0, 0, 3, [][]int{{1, 2, 0}, {1, 1}}), api.OK) // three, of three options
		s.closesPolls()
		s.ends()
		out, e := s.w.Outcome()
		if e != api.OK {
			t.Fatal("Outcome", e)
		}
		alike(t, "council", []any{out.Results[1].Ranks, out.Results[1].Blank}, []any{[][]int{{1, 2, -1}, {2, 1, 3}, {3, 2, 0}}, 2})
		alike(t, "bridge", []any{out.Results[3].Ranks, out.Results[3].Blank}, []any{[][]int{{-1, 1}, {1, 2}}, 1})
		alike(t, "Elected", [][]int{out.Results[1].Elected, out.Results[3].Elected}, [][]int{{1, 0}, {0}})
	}
}

// TestZ7None: a sum that is greater than how many ballots there were in the precinct is none.
func TestZ7None(t *testing.T) {
	for _, c := range []struct {
		x    int
		want api.Errno
	}{{2, api.OK}, {3, api.ErrNone}, {4, api.ErrNone}, {640, api.ErrNone}} {
		s := sceneOf(t, townOf(api.Tiny, nil))
		s.begins(12)
		// Two ballots in south, three in east.
		s.sees(s.forged(s.d, 1, 1, 1, 0, c.x, [][]int{{1, 2, 3}, {1, 1}}), api.OK)
		s.sees(s.vote(5, 2, [][]int{{0, 0, 0}, {0, 1}}), api.OK)
		for k, i := range []int{3, 7, 11} {
			s.sees(s.vote(i, 3+k, [][]int{{0, 0, 0}, {1, 0}}), api.OK)
		}
		s.closesPolls()
		s.ends()
		out, e := s.w.Outcome()
		if e != c.want {
			t.Errorf("%d: error %d comes", c.x, e)
		}
		if e == api.OK {
			alike(t, "parks", out.Results[2].Totals, [][]int{{0, 0}, {2, 2}, {0, 0}, {3, 0}})
		} else if len(out.Results) != 0 {
			t.Errorf("%v comes beside an error", out)
		}
		again, e2 := s.w.Outcome()
		alike(t, "Outcome again", []any{again, e2}, []any{out, e})
	}
}

// TestZ7Done: there is no outcome till all is opened.
func TestZ7Done(t *testing.T) {
	for phase := api.PhaseNone; phase <= api.PhaseDone; phase++ {
		s := sceneOf(t, townOf(api.Tiny, nil))
		s.goesTo(phase)
		out, e := s.w.Outcome()
		if (e == api.OK) != (phase == api.PhaseDone) || e != api.OK && (e != api.ErrState || len(out.Results) != 0) {
			t.Errorf("phase %d: %v comes, error %d", phase, out, e)
		}
	}
}

// TestZ7Lots: ties are broken by the lots of the manifest.
func TestZ7Lots(t *testing.T) {
	seen := map[int]int{}
	for k := range 12 {
		lots := string(rune('a' + k))
		s := sceneOf(t, plainTown(api.Tiny, func(m *api.Manifest) { m.Lots = lots }))
		s.begins(1)
		s.sees(s.vote(0, 0, [][]int{{1, 1}}), api.OK)
		s.closesPolls()
		s.ends()
		out, _ := s.w.Outcome()
		first, _ := count.Lots(s.m.Contests[0], lots)
		alike(t, "Elected", out.Results[0].Elected, first[:1])
		seen[first[0]]++
	}
	if len(seen) != 2 {
		t.Errorf("all lots are alike: %v", seen)
	}
}

// TestE2Outcome: what is answered is new memory each time.
func TestE2Outcome(t *testing.T) {
	s := closed(t, townOf(api.Short, nil), 5)
	s.ends()
	one, _ := s.w.Outcome()
	two, _ := s.w.Outcome()
	apart(t, "Outcome", one, two)
	spoil(reflect.ValueOf(&one).Elem())
	three, e := s.w.Outcome()
	alike(t, "Outcome", []any{three, e}, []any{two, api.OK})
}

// TestZ2Any: entries of all kinds come as chance has it, right ones and others, and ones that came before.
func TestZ2Any(t *testing.T) {
	ended := 0
	for seed := range uint64(30) {
		d := dice(100 + seed)
		s := sceneOf(t, townOf(api.Tiny, func(m *api.Manifest) { m.Again, m.Mixes = d.IntN(2) == 0, d.IntN(3) }))
		var old []thing
		for n := range 150 {
			x := s.anyEntry(d, n)
			if len(old) > 0 && d.IntN(5) == 0 {
				x = old[d.IntN(len(old))]
			}
			s.see(x)
			old = append(old, x)
		}
		if s.w.Phase() == api.PhaseDone {
			ended++
		}
		// Whoever goes through the record alone comes to the same.
		w := watch.New()
		for _, text := range s.model.texts {
			if e := w.See(text); e != api.OK {
				t.Errorf("error %d comes of an entry of the record", e)
			}
		}
		s.w = w
		s.agree()
	}
	if ended < 5 {
		t.Errorf("only %d records were done", ended)
	}
}

// anyEntry is one that is right now, or nearly so.
func (s *scene) anyEntry(d *rand.Rand, n int) thing {
	voter := d.IntN(6)
	switch s.w.Phase() {
	case api.PhaseNone:
		m := roomy(s.m)
		if d.IntN(2) == 0 {
			m.Trustees[d.IntN(3)] = public(m.Kind, d.IntN(600))
		}
		return thing{kind: "manifest", m: m}
	case api.PhaseRoll:
		if d.IntN(8) == 0 {
			return s.pollsNow([]string{"open", "open", "close"}[d.IntN(3)])
		}
		return s.joins(max(0, len(s.model.all("change"))-d.IntN(2)), voterId(voter), s.precinctOf(voter), voterSecret(voter))
	case api.PhaseOpen:
		switch d.IntN(9) {
		case 0:
			return s.pollsNow([]string{"open", "close"}[d.IntN(2)])
		case 1:
			return s.opens(voterId(voter), s.precinctOf(voter), anyChoices(d, s.m, s.precinctOf(voter)), n)
		case 2:
			return s.casts(voterId(voter), s.precinctOf(voter), voterSecret(d.IntN(6)), anyChoices(d, s.m, s.precinctOf(voter)), n)
		}
		return s.vote(voter, n, anyChoices(d, s.m, s.precinctOf(voter)))
	case api.PhaseMix:
		x := s.mixes(d, s.w)
		switch d.IntN(4) {
		case 0:
			x.contest = d.IntN(4)
		case 1:
			x.mixed.Out = slices.Clone(x.mixed.Out)
			slices.Reverse(x.mixed.Out)
		}
		return x
	case api.PhaseShare:
		x := s.shares(s.w, d.IntN(len(s.w.Wanted())), 1+d.IntN(3))
		if d.IntN(6) == 0 {
			x.which = d.IntN(len(s.w.Wanted()) + 2)
		}
		return x
	}
	return s.pollsNow("open")
}
