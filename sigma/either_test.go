package sigma_test

import (
	"slices"
	"testing"

	"hustings/api"
	"hustings/sigma"
)

// someSets are three of them; only the one in the middle holds with the secrets.
func someSets(r ring) ([][]api.Claim, []string) {
	d := dice()
	secrets := r.anyOf(d, 2)
	sets := [][]api.Claim{r.claims(d, r.anyOf(d, 1), 2), r.claims(d, secrets, 1, 3), r.claims(d, r.anyOf(d, 3), 1, 1, 2)}
	sets[0][0].Images[1] = r.any(d)
	return sets, secrets
}

func TestQ3ProveAny(t *testing.T) {
	kinds(t, func(t *testing.T, r ring) {
		d := dice()
		for _, bases := range [][][]int{{{1}}, {{1}, {1}}, {{2}, {1, 2}}, {{1, 1, 1}, {8}, {2}, {1, 1}}, slices.Repeat([][]int{{2}}, 16), {{1}, slices.Repeat([]int{1}, 64)}} {
			sets := make([][]api.Claim, len(bases))
			secrets := make([][]string, len(bases))
			for i, l := range bases {
				secrets[i] = r.anyOf(d, len(l))
				sets[i] = r.claims(d, secrets[i], l...)
			}
			for which := range sets {
				// Of the others none holds: that is not asked for.
				some := cloneSets(sets)
				for i := range some {
					if i != which {
						some[i][0].Images[0] = r.any(d)
					}
				}
				for _, seed := range []string{"", "seed"} {
					p, e := sigma.ProveAny(r.kind, "label", some, which, secrets[which], seed)
					same(t, "ProveAny", p, e, modelProveAny(r, "label", some, which, secrets[which], seed))
					if !sigma.VerifyAny(r.kind, "label", some, p) {
						t.Errorf("the proof of %d of %v is not right", which, bases)
					}
				}
				p, e := sigma.ProveAny(r.kind, "", sets, which, secrets[which], "seed")
				same(t, "ProveAny", p, e, modelProveAny(r, "", sets, which, secrets[which], "seed"))
			}
		}
	})
}

// TestQ3Most: as many sets of as many claims with as many bases as there may be.
func TestQ3Most(t *testing.T) {
	r, d := rings()[1], dice()
	secrets := r.anyOf(d, 64)
	sets := slices.Repeat([][]api.Claim{r.claims(d, secrets, slices.Repeat([]int{8}, 64)...)}, 16)
	p, e := sigma.ProveAny(r.kind, "label", sets, 15, secrets, "seed")
	same(t, "ProveAny", p, e, modelProveAny(r, "label", sets, 15, secrets, "seed"))
	if !sigma.VerifyAny(r.kind, "label", sets, p) {
		t.Error("the proof is not right")
	}
}

func TestQ3Kind(t *testing.T) {
	r := rings()[1]
	sets, secrets := someSets(r)
	for _, kind := range noKinds() {
		for _, l := range [][][]api.Claim{sets, nil, make([][]api.Claim, 17), {nil}} {
			for _, which := range []int{1, -1, 17} {
				p, e := sigma.ProveAny(kind, "label", l, which, secrets, "seed")
				fails(t, "ProveAny", noEither(p), e, api.ErrKind)
			}
		}
	}
}

// setFlaws are lists of sets that are not right: of each what is wrong.
func setFlaws(r ring) []struct {
	name string
	sets [][]api.Claim
	e    api.Errno
} {
	type row = struct {
		name string
		sets [][]api.Claim
		e    api.Errno
	}
	sets, _ := someSets(r)
	good := sets[0]
	rows := []row{
		{"nil", nil, api.ErrForm},
		{"none", [][]api.Claim{}, api.ErrForm},
		{"17", slices.Repeat([][]api.Claim{good}, 17), api.ErrLong},
		{"17 empty ones", make([][]api.Claim, 17), api.ErrLong},
		{"16 empty ones", make([][]api.Claim, 16), api.ErrForm},
	}
	all := flaws(r)
	for _, f := range all {
		rows = append(rows,
			row{f.name, [][]api.Claim{f.claims}, f.e},
			row{f.name + ", the last one", [][]api.Claim{good, good, f.claims}, f.e},
			row{f.name + ", the first one", [][]api.Claim{f.claims, good}, f.e},
			row{f.name + ", the last of 16", append(slices.Repeat([][]api.Claim{good}, 15), f.claims), f.e},
		)
		for _, g := range all[:21] {
			rows = append(rows, row{f.name + " ahead of " + g.name, [][]api.Claim{f.claims, g.claims}, f.e})
		}
	}
	return rows
}

func TestQ3Sets(t *testing.T) {
	kinds(t, func(t *testing.T, r ring) {
		for _, f := range setFlaws(r) {
			for _, which := range []int{0, 1, -1, 99} {
				for _, secrets := range [][]string{{r.small(1)}, {"none"}, nil} {
					p, e := sigma.ProveAny(r.kind, "label", f.sets, which, secrets, "seed")
					fails(t, "ProveAny: "+f.name, noEither(p), e, f.e)
				}
			}
		}
	})
}

func TestQ3Which(t *testing.T) {
	kinds(t, func(t *testing.T, r ring) {
		sets, secrets := someSets(r)
		for _, which := range []int{-1, 3, 4, 100, -1 << 63, 1<<63 - 1} {
			for _, l := range [][]string{secrets, nil, {"none", "none"}, r.anyOf(dice(), 3)} {
				p, e := sigma.ProveAny(r.kind, "label", sets, which, l, "seed")
				fails(t, "ProveAny", noEither(p), e, api.ErrRange)
			}
		}
	})
}

func TestQ3Secrets(t *testing.T) {
	kinds(t, func(t *testing.T, r ring) {
		sets, secrets := someSets(r)
		check := func(what string, which int, l []string, want api.Errno) {
			t.Helper()
			p, e := sigma.ProveAny(r.kind, "label", sets, which, l, "seed")
			fails(t, what, noEither(p), e, want)
		}
		check("none", 1, nil, api.ErrForm)
		check("too few", 1, secrets[:1], api.ErrForm)
		check("too many", 1, append(secrets[:2:2], secrets[0]), api.ErrForm)
		check("too many, and no scalars", 1, []string{"a", "b", "c"}, api.ErrForm)
		check("as many as another set has claims", 2, secrets, api.ErrForm)
		for _, none := range r.noScalars() {
			check("no scalar", 1, []string{secrets[0], none}, api.ErrScalar)
			check("no scalar", 1, []string{none, secrets[1]}, api.ErrScalar)
		}
		check("another secret", 1, []string{secrets[0], r.add(secrets[1], r.small(1))}, api.ErrProof)
		check("another secret", 1, []string{r.add(secrets[0], r.small(1)), secrets[1]}, api.ErrProof)
		check("a set that does not hold", 0, secrets[:1], api.ErrProof)
		check("other secrets", 2, append(secrets[:2:2], secrets[0]), api.ErrProof)
	})
}

// TestQ4VerifyAny: of all proofs that have the right form, VerifyAny finds those right that the document does.
func TestQ4VerifyAny(t *testing.T) {
	r, d := rings()[0], dice()
	right := 0
	for range 6 {
		sets, _ := someSets(r)
		p := api.Either{Challenges: r.anyOf(d, 3), Answers: [][]string{r.anyOf(d, 1), r.anyOf(d, 2), r.anyOf(d, 3)}}
		for c := range int64(641) {
			p.Challenges[1] = r.small(c)
			want := modelVerifyAny(r, "label", sets, p)
			if want {
				right++
			}
			if sigma.VerifyAny(r.kind, "label", sets, p) != want {
				t.Errorf("challenge %d: not %t", c, want)
			}
		}
	}
	if right == 0 {
		t.Error("no proof was right by chance: look for other numbers")
	}
}

func TestQ4Wrong(t *testing.T) {
	for _, r := range rings()[1:] {
		sets, secrets := someSets(r)
		p, _ := sigma.ProveAny(r.kind, "label", sets, 1, secrets, "seed")
		wrong := func(what string, kind int, label string, sets [][]api.Claim, p api.Either) {
			t.Helper()
			if sigma.VerifyAny(kind, label, sets, p) {
				t.Errorf("kind %d, %s: it is found right", r.kind, what)
			}
		}
		changed := func(what string, change func(p *api.Either)) {
			t.Helper()
			q := cloneEither(p)
			change(&q)
			wrong(what, r.kind, "label", sets, q)
		}
		wrong("another label", r.kind, "other", sets, p)
		for _, kind := range append(noKinds(), api.Tiny, api.Short+api.Full-r.kind) {
			wrong("another kind", kind, "label", sets, p)
		}
		wrong("a set less", r.kind, "label", sets[:2], p)
		wrong("no sets", r.kind, "label", nil, p)
		wrong("no sets, no proof", r.kind, "label", nil, api.Either{})
		wrong("no proof", r.kind, "label", sets, api.Either{})
		changed("a challenge less", func(p *api.Either) { p.Challenges = p.Challenges[:2] })
		changed("a challenge more", func(p *api.Either) { p.Challenges = append(p.Challenges, r.small(0)) })
		changed("a list less", func(p *api.Either) { p.Answers = p.Answers[:2] })
		changed("a list more", func(p *api.Either) { p.Answers = append(p.Answers, nil) })
		changed("no lists", func(p *api.Either) { p.Answers = nil })
		changed("no challenges", func(p *api.Either) { p.Challenges = nil })
		for i := range p.Challenges {
			changed("another challenge", func(p *api.Either) { p.Challenges[i] = r.add(p.Challenges[i], r.small(1)) })
			changed("an answer less", func(p *api.Either) { p.Answers[i] = p.Answers[i][1:] })
			changed("an answer more", func(p *api.Either) { p.Answers[i] = append(p.Answers[i], r.small(0)) })
			for _, none := range append(r.noScalars(), r.text(number(p.Challenges[i]).Add(number(p.Challenges[i]), r.order))) {
				changed("no challenge", func(p *api.Either) { p.Challenges[i] = none })
				changed("no answer", func(p *api.Either) { p.Answers[i][i] = none })
			}
			for k := range p.Answers[i] {
				changed("another answer", func(p *api.Either) { p.Answers[i][k] = r.add(p.Answers[i][k], r.small(1)) })
			}
		}
		// The sum is the same, the challenges are not.
		changed("challenges moved", func(p *api.Either) {
			p.Challenges[0], p.Challenges[1] = r.add(p.Challenges[0], r.small(1)), r.sub(p.Challenges[1], r.small(1))
		})
		slices.Reverse(sets)
		wrong("another order", r.kind, "label", sets, p)
	}
}

func TestQ4WrongSets(t *testing.T) {
	r := rings()[1]
	sets, secrets := someSets(r)
	p, _ := sigma.ProveAny(r.kind, "label", sets, 1, secrets, "seed")
	double := func(a string) string { return r.product(a, r.small(1), r.small(2), r.small(1)) }
	for i, s := range sets {
		for k, c := range s {
			for n := range c.Bases {
				other := cloneSets(sets)
				other[i][k].Bases[n] = double(c.Bases[n])
				if sigma.VerifyAny(r.kind, "label", other, p) {
					t.Error("another base: it is found right")
				}
				other = cloneSets(sets)
				other[i][k].Images[n] = double(c.Images[n])
				if sigma.VerifyAny(r.kind, "label", other, p) {
					t.Error("another image: it is found right")
				}
			}
		}
	}
	// A claim more in one set, one less in the next: all is said in the same order but for how many there are.
	moved := [][]api.Claim{append(sets[0][:1:1], sets[1][0]), sets[1][1:], sets[2]}
	q := cloneEither(p)
	q.Answers[0], q.Answers[1] = append(q.Answers[0], q.Answers[1][0]), q.Answers[1][1:]
	if sigma.VerifyAny(r.kind, "label", moved, q) {
		t.Error("claims in other sets: it is found right")
	}
}

func TestQ4Flaws(t *testing.T) {
	kinds(t, func(t *testing.T, r ring) {
		for _, f := range setFlaws(r) {
			p := api.Either{Challenges: slices.Repeat([]string{r.small(1)}, len(f.sets))}
			for _, s := range f.sets {
				p.Answers = append(p.Answers, slices.Repeat([]string{r.small(1)}, len(s)))
			}
			if sigma.VerifyAny(r.kind, "label", f.sets, p) {
				t.Errorf("%s: it is found right", f.name)
			}
		}
	})
}

// TestE2ProveAny: what is handed in is only read, and no two lists of an answer share memory.
func TestE2ProveAny(t *testing.T) {
	r := rings()[1]
	sets, secrets := someSets(r)
	before := cloneSets(sets)
	spare := append(secrets, "spare")[:2]
	p, _ := sigma.ProveAny(r.kind, "label", sets, 1, spare, "seed")
	want := cloneEither(p)
	for i := range p.Answers {
		_ = append(p.Answers[i], "behind")
	}
	_ = append(p.Challenges, "behind")
	same(t, "the proof", p, api.OK, want)
	for i := range p.Answers {
		p.Answers[i][0] = "x"
		p.Challenges[i] = "x"
	}
	q, e := sigma.ProveAny(r.kind, "label", sets, 1, spare, "seed")
	same(t, "ProveAny again", q, e, want)
	if !sigma.VerifyAny(r.kind, "label", sets, q) {
		t.Error("the proof is not right")
	}
	same(t, "the sets", sets, api.OK, before)
	same(t, "the secrets", spare[:3], api.OK, append(secrets[:2:2], "spare"))
}
