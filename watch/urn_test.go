package watch_test

import (
	"fmt"
	"slices"
	"strings"
	"testing"

	"hustings/api"
	"hustings/ballot"
	"hustings/booth"
	"hustings/fold"
	"hustings/sigma"
	"hustings/watch"
)

// castFault is something that is wrong with a ballot that is cast. What has a lower rank is told ahead of others. Coded: its
// code, and its signature, are made anew behind it.
type castFault struct {
	name  string
	rank  int
	e     api.Errno
	coded bool
	do    func(c *api.Cast)
}

// castFaults are some of each place; the ballot is by v0, of the precinct 0.
func castFaults(s *scene) []castFault {
	kind := s.m.Kind
	one := scalar(kind, 1)
	parts := func(do func(p []api.Part)) func(c *api.Cast) { return func(c *api.Cast) { do(c.Ballot.Parts) } }
	code := func(b string) string { return fold.Digest(b) }
	return []castFault{
		{"nobody", 0, api.ErrRight, true, func(c *api.Cast) { c.Ballot.Voter = "nobody" }},
		{"no word", 0, api.ErrRight, true, func(c *api.Cast) { c.Ballot.Voter = "" }},
		{"another voter's place", 0, api.ErrRight, true, func(c *api.Cast) { c.Ballot.Precinct = 1 }},
		{"no place", 0, api.ErrRight, true, func(c *api.Cast) { c.Ballot.Precinct = 1 << 40 }},
		{"a part too few", 1, api.ErrForm, true, func(c *api.Cast) { c.Ballot.Parts = c.Ballot.Parts[1:] }},
		{"no parts", 1, api.ErrForm, true, func(c *api.Cast) { c.Ballot.Parts = nil }},
		{"a cipher too many", 1, api.ErrForm, true, parts(func(p []api.Part) { p[1].Ciphers = append(p[1].Ciphers, p[1].Ciphers[0]) })},
		{"a sum of ranks", 1, api.ErrForm, true, parts(func(p []api.Part) { p[3].Sum.Challenges = []string{one} })},
		{"no element", 2, api.ErrElem, true, parts(func(p []api.Part) { p[2].Ciphers[1].A = scalar(kind, 0) })},
		{"another cipher", 3, api.ErrProof, true, parts(func(p []api.Part) { p[1].Ciphers[0] = p[1].Ciphers[1] })},
		{"another proof", 3, api.ErrProof, true, parts(func(p []api.Part) { p[0].Proofs[0] = p[0].Proofs[1] })},
		{"no proof of the sum", 3, api.ErrProof, true, parts(func(p []api.Part) { p[0].Sum = api.Either{} })},
		{"another voter", 3, api.ErrProof, true, func(c *api.Cast) { c.Ballot.Voter = "v4" }},
		{"another code ahead", 4, api.ErrProof, false, func(c *api.Cast) { c.Prev = code("another") }},
		{"no code ahead", 4, api.ErrProof, false, func(c *api.Cast) { c.Prev = "" }},
		{"a long code ahead", 4, api.ErrProof, false, func(c *api.Cast) { c.Prev += "x" }},
		{"another code", 4, api.ErrProof, false, func(c *api.Cast) { c.Code = code("another") }},
		{"no code", 4, api.ErrProof, false, func(c *api.Cast) { c.Code = "" }},
		{"no codes, and signed so", 4, api.ErrProof, false, func(c *api.Cast) {
			c.Prev, c.Code = "", ""
			*c = s.signed(*c, voterSecret(0)).cast
		}},
		{"no signature", 4, api.ErrProof, false, func(c *api.Cast) { c.Sign = api.Proof{} }},
		{"another answer", 4, api.ErrProof, false, func(c *api.Cast) { c.Sign.Answers[0] = one }},
		{"two answers", 4, api.ErrProof, false, func(c *api.Cast) { c.Sign.Answers = append(c.Sign.Answers, one) }},
		{"signed by another voter", 4, api.ErrProof, false, func(c *api.Cast) { *c = s.signed(*c, voterSecret(1)).cast }},
		{"signed by the clerk", 4, api.ErrProof, false, func(c *api.Cast) { *c = s.signed(*c, clerk).cast }},
		{"another text", 4, api.ErrProof, false, func(c *api.Cast) {
			c.Sign, _ = sigma.Sign(kind, scalar(kind, voterSecret(0)), fold.Tag("casts", []string{s.digest, c.Code}), "seed")
		}},
		{"the code alone", 4, api.ErrProof, false, func(c *api.Cast) { c.Sign, _ = sigma.Sign(kind, scalar(kind, voterSecret(0)), c.Code, "seed") }},
	}
}

// spoilt is a ballot that some faults are done to: those that are told ahead last.
func (s *scene) spoilt(c api.Cast, faults ...castFault) thing {
	c = roomy(c)
	slices.SortStableFunc(faults, func(a, b castFault) int { return b.rank - a.rank })
	// What is wrong with the code and the signature must outlast the making of these.
	for _, f := range faults {
		if f.coded {
			f.do(&c)
			c.Code, _ = booth.Code(c.Prev, c.Ballot)
			c = s.signed(c, voterSecret(0)).cast
		}
	}
	for _, f := range faults {
		if !f.coded {
			f.do(&c)
		}
	}
	return thing{kind: "cast", cast: c}
}

func votesOf0() [][]int { return [][]int{{1, 0, 1}, {2, 0, 1}, {1, 0}, {2, 1}} }

// TestZ4Wrong: each fault by itself, and with each one that is told behind it; and ahead of ErrTwice too.
func TestZ4Wrong(t *testing.T) {
	s := sceneOf(t, townOf(api.Short, nil))
	s.begins(5)
	c := s.vote(0, 1, votesOf0()).cast
	voted := false
	look := func() {
		for _, f := range castFaults(s) {
			x := s.spoilt(c, f)
			text, _ := x.form()
			if e := s.w.See(text); e != f.e {
				t.Errorf("%s: error %d comes, not %d (voted: %t)", f.name, e, f.e, voted)
			}
			if e := s.model.see(x, text); e != f.e {
				t.Errorf("%s: the model tells error %d", f.name, e)
			}
			for _, g := range castFaults(s) {
				if g.rank <= f.rank {
					continue
				}
				text, _ := s.spoilt(c, f, g).form()
				if e := s.w.See(text); e != f.e {
					t.Errorf("%s, %s: error %d comes, not %d", f.name, g.name, e, f.e)
				}
			}
		}
		s.agree()
	}
	look()
	s.sees(thing{kind: "cast", cast: c}, api.OK)
	voted = true
	look()
	s.sees(thing{kind: "cast", cast: c}, api.ErrTwice)
}

// TestZ4Once: where Again is not set, the first one counts.
func TestZ4Once(t *testing.T) {
	s := sceneOf(t, plainTown(api.Short, nil))
	s.begins(2)
	s.sees(s.vote(0, 1, [][]int{{1, 0}}), api.OK)
	s.sees(s.vote(0, 2, [][]int{{0, 1}}), api.ErrTwice)
	s.sees(s.vote(1, 3, [][]int{{1, 1}}), api.OK)
	s.closesPolls()
	s.ends()
	out, _ := s.w.Outcome()
	alike(t, "Totals", out.Results[0].Totals, [][]int{{2, 1}})
}

// TestZ4Again: where it is, the last one does, in the place of the first one.
func TestZ4Again(t *testing.T) {
	s := sceneOf(t, townOf(api.Short, func(m *api.Manifest) { m.Again = true; m.Mixes = 0 }))
	s.begins(6)
	all := func(n int) [][]int { return [][]int{{n, 0, 0}, {1, 0, 0}, {n, 1}, {1, 2}} }
	first := s.vote(0, 1, all(0))
	s.sees(first, api.OK)
	s.sees(s.vote(4, 2, all(1)), api.OK)
	s.sees(s.vote(1, 3, [][]int{{3, 2, 1}, {0, 0}}), api.OK)
	s.sees(s.vote(0, 4, all(0)), api.OK)
	last := s.vote(0, 5, all(1))
	s.sees(last, api.OK)
	s.sees(first, api.ErrTwice) // its code stands in the record, though it counts no more
	s.sees(last, api.ErrTwice)
	s.closesPolls()
	// Of the contest council: the last one of v0, then those of v4 and v1.
	wanted := s.w.Wanted()
	alike(t, "the first row", wanted[3:6], last.cast.Ballot.Parts[1].Ciphers)
	s.ends()
	out, _ := s.w.Outcome()
	alike(t, "mayor", out.Results[0].Totals[0], []int{2, 0, 0})
	alike(t, "ballots", []int{out.Results[0].Ballots, out.Results[1].Ballots, out.Results[2].Ballots, out.Results[3].Ballots}, []int{2, 3, 3, 2})
}

// TestZ4Opened: what Recheck tells, then ErrTwice; what was opened can't be cast, and what was cast not be opened.
func TestZ4Opened(t *testing.T) {
	s := sceneOf(t, townOf(api.Short, nil))
	s.begins(1)
	shown := s.opens("v0", 0, votesOf0(), 1)
	faults := []struct {
		e  api.Errno
		do func(o *api.Opening)
	}{
		{api.ErrForm, func(o *api.Opening) { o.Prev = o.Prev[1:] }},
		{api.ErrForm, func(o *api.Opening) { o.Code = "" }},
		{api.ErrForm, func(o *api.Opening) { o.Voter = "no word" }},
		{api.ErrRange, func(o *api.Opening) { o.Precinct = 4 }},
		{api.ErrForm, func(o *api.Opening) { o.Choices = nil }},
		{api.ErrForm, func(o *api.Opening) { o.Choices[0] = o.Choices[0][1:] }},
		{api.ErrRange, func(o *api.Opening) { o.Choices[1][0] = 1 << 40 }},
		{api.ErrRange, func(o *api.Opening) { o.Choices[0][1] = 1 }},
		{api.ErrProof, func(o *api.Opening) { o.Choices[2][0] = 0 }},
		{api.ErrProof, func(o *api.Opening) { o.Seed += "x" }},
		{api.ErrProof, func(o *api.Opening) { o.Voter = "v1" }},
		{api.ErrProof, func(o *api.Opening) { o.Prev = fold.Digest("another") }},
		{api.ErrProof, func(o *api.Opening) { o.Code = o.Prev }},
	}
	look := func() {
		for i, f := range faults {
			x := thing{kind: "opened", opening: roomy(shown.opening)}
			f.do(&x.opening)
			if e := s.see(x); e != f.e {
				t.Errorf("%d: error %d comes, not %d", i, e, f.e)
			}
		}
	}
	look()
	s.sees(shown, api.OK)
	look()
	s.sees(shown, api.ErrTwice)
	s.sees(s.vote(0, 1, votesOf0()), api.ErrTwice) // it was shown
	s.sees(s.vote(0, 2, votesOf0()), api.OK)
	s.sees(s.opens("v0", 0, votesOf0(), 2), api.ErrTwice) // it was cast
	s.sees(s.opens("nobody", 3, [][]int{{0, 0, 0}, {0, 0}}, 3), api.OK)
	s.sees(s.opens("v0", 0, votesOf0(), 4), api.OK) // who has voted may look into others
	s.closesPolls()
	s.ends()
	out, _ := s.w.Outcome()
	alike(t, "ballots", out.Results[0].Ballots, 1)
}

// TestZ4Full: 256 voters cast ballots, and no more; each of them may cast one again.
func TestZ4Full(t *testing.T) {
	for _, again := range []bool{false, true} {
		a := plainTown(api.Short, func(m *api.Manifest) { m.Again, m.Need, m.Contests[0].Options = again, 1, []string{"yes"} })
		w := watch.New()
		see := func(x thing, want api.Errno) {
			t.Helper()
			text, _ := x.form()
			if e := w.See(text); e != want {
				t.Errorf("%s: error %d comes, not %d", x.kind, e, want)
			}
		}
		see(thing{kind: "manifest", m: a.m}, api.OK)
		for i := range 258 {
			see(a.joins(i, voterId(i), 0, voterSecret(i)), api.OK)
		}
		size, head := w.Head()
		see(a.polls("open", size, head), api.OK)
		vote := func(i, n int) thing { return a.casts(voterId(i), 0, voterSecret(i), [][]int{{1}}, n) }
		for i := range 255 {
			see(vote(i, i), api.OK)
		}
		see(a.opens("v256", 0, [][]int{{1}}, 256), api.OK)
		see(vote(255, 255), api.OK)
		see(vote(256, 256), api.ErrTwice) // it was shown
		see(vote(256, 300), api.ErrFull)
		see(vote(257, 301), api.ErrFull)
		want := api.ErrTwice
		if again {
			want = api.OK
		}
		see(vote(0, 302), want)
		see(vote(255, 303), want)
		see(vote(256, 304), api.ErrFull)
		size, head = w.Head()
		see(a.polls("close", size, head), api.OK)
		if got := len(w.Wanted()); got != 1 {
			t.Fatalf("%d ciphers are wanted", got)
		}
		see(a.shares(w, 0, 2), api.OK)
		out, e := w.Outcome()
		alike(t, "Outcome", []any{out, e}, []any{api.Outcome{Results: []api.Result{{Ballots: 256, Totals: [][]int{{256}}, Elected: []int{0}}}}, api.OK})
	}
}

// TestZ4Booth: what a booth gives out can be cast, and be opened.
func TestZ4Booth(t *testing.T) {
	s := sceneOf(t, townOf(api.Short, nil))
	s.begins(1)
	b, e := booth.Open(s.m, s.key, "booth", "seed", newDisk())
	if e != api.OK {
		t.Fatal("Open", e)
	}
	b.Fill("v0", 0, votesOf0())
	o, _ := b.Challenge()
	s.sees(thing{kind: "opened", opening: o}, api.OK)
	b.Fill("v0", 0, votesOf0())
	c, _ := b.Cast()
	s.sees(thing{kind: "cast", cast: c}, api.ErrProof)
	s.sees(s.signed(c, voterSecret(0)), api.OK)
	s.closesPolls()
	s.ends()
}

// TestZ4Tiny: where a proof is right by chance, a ballot counts as whatever it says.
func TestZ4Tiny(t *testing.T) {
	s := sceneOf(t, townOf(api.Tiny, nil))
	s.begins(4)
	told := map[api.Errno]int{}
	for n := range 60 {
		c := s.vote(2, n, [][]int{{2, 1}}).cast
		c.Ballot.Parts[0].Proofs[0].Challenges[0] = scalar(api.Tiny, n)
		c.Code, _ = booth.Code(c.Prev, c.Ballot)
		e := s.see(s.signed(c, voterSecret(2)))
		if e != api.OK && e != api.ErrProof && e != api.ErrTwice {
			t.Errorf("error %d comes", e)
		}
		told[e]++
	}
	if told[api.ErrProof] == 0 {
		t.Errorf("nothing was wrong: %v", told)
	}
}

// TestZ4Good: what Good tells of a ballot is told, whatever the voter.
func TestZ4Good(t *testing.T) {
	s := sceneOf(t, townOf(api.Short, nil))
	s.begins(4)
	for i := range 4 {
		c := s.vote(i, i, anyChoices(s.d, s.m, i)).cast
		if e := ballot.Good(s.m, s.key, c.Ballot); e != api.OK {
			t.Fatal("Good", e)
		}
		wrong := roomy(c)
		wrong.Ballot.Parts[0].Ciphers[0].B = strings.Repeat("\xff", 8)
		wrong.Code, _ = booth.Code(wrong.Prev, wrong.Ballot)
		s.sees(s.signed(wrong, voterSecret(i)), api.ErrElem)
		s.sees(s.signed(c, voterSecret(i)), api.OK)
		s.sees(s.signed(c, voterSecret(i)), api.ErrTwice)
	}
	if n, _ := s.w.Head(); n != 10 {
		t.Error(fmt.Sprint(n, " entries come"))
	}
}
