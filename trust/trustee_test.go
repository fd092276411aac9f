package trust_test

import (
	"math/rand/v2"
	"slices"
	"testing"

	"hustings/api"
	"hustings/sigma"
	"hustings/trust"
)

// trustee is a new one, with its number's seed.
func trustee(t *testing.T, r ring, need, of, me int) *trust.Trustee {
	t.Helper()
	x, e := trust.NewTrustee(r.kind, need, of, me, seedOf(me))
	if x == nil || e != api.OK {
		t.Fatal("NewTrustee", e)
	}
	return x
}

// trustees are all of them.
func trustees(t *testing.T, r ring, need, of int) []*trust.Trustee {
	t.Helper()
	var out []*trust.Trustee
	for x := 1; x <= of; x++ {
		out = append(out, trustee(t, r, need, of, x))
	}
	return out
}

// see shows all of them posts.
func see(l []*trust.Trustee, posts ...api.Post) {
	for _, x := range l {
		for _, p := range posts {
			x.See(p)
		}
	}
}

// give gives a share to another one.
func give(t *testing.T, l []*trust.Trustee, from, to int) {
	t.Helper()
	share, e := l[from-1].Share(to)
	if e != api.OK {
		t.Fatal("Share", e)
	}
	if e := l[to-1].Hear(from, share); e != api.OK {
		t.Fatal("Hear", e)
	}
}

func TestH5NewTrustee(t *testing.T) {
	kinds(t, func(t *testing.T, r ring) {
		for _, c := range wrongCircles() {
			for _, me := range []int{1, 0, 9} {
				x, e := trust.NewTrustee(r.kind, c[0], c[1], me, "seed")
				fails(t, "a wrong circle", x == nil, e, api.ErrRange)
				x, e = trust.NewTrustee(4, c[0], c[1], me, "seed")
				fails(t, "no kind", x == nil, e, api.ErrKind)
			}
		}
		for _, me := range noTrustees(3) {
			x, e := trust.NewTrustee(r.kind, 2, 3, me, "seed")
			fails(t, "no trustee", x == nil, e, api.ErrRange)
		}
		for _, kind := range noKinds() {
			x, e := trust.NewTrustee(kind, 2, 3, 1, "seed")
			fails(t, "no kind", x == nil, e, api.ErrKind)
		}
	})
}

func TestH5Offer(t *testing.T) {
	kinds(t, func(t *testing.T, r ring) {
		for of := 1; of <= 8; of++ {
			for need := 1; need <= of; need++ {
				me := 1 + (need+of)%of
				x := trustee(t, r, need, of, me)
				same(t, "Offer", x.Offer(), api.OK, modelOffer(r, need, of, me, seedOf(me)))
				want := modelDeal(r, need, of, seedOf(me)).Shares
				for to := 1; to <= of; to++ {
					share, e := x.Share(to)
					same(t, "Share", share, e, want[to-1])
				}
				for _, to := range noTrustees(of) {
					share, e := x.Share(to)
					fails(t, "Share", share == "", e, api.ErrRange)
				}
			}
		}
	})
}

func TestH5Hear(t *testing.T) {
	kinds(t, func(t *testing.T, r ring) {
		x := trustee(t, r, 2, 3, 2)
		check := func(from int, share string, want api.Errno) {
			t.Helper()
			if e := x.Hear(from, share); e != want {
				t.Errorf("Hear from %d: %d comes, not %d", from, e, want)
			}
		}
		for _, from := range append(noTrustees(3), 2) {
			check(from, r.small(1), api.ErrRange)
			check(from, "none", api.ErrRange)
		}
		for _, none := range r.noScalars() {
			check(1, none, api.ErrScalar)
			check(3, none, api.ErrScalar)
		}
		for _, share := range append(r.anyOf(dice(), 20), r.small(0), r.small(0)) {
			check(1, share, api.OK)
		}
	})
}

// TestH5Heard: of several shares that were heard, ahead of the offer and behind it, the one that fits is known.
func TestH5Heard(t *testing.T) {
	kinds(t, func(t *testing.T, r ring) {
		l := offers(r, 2, 2)
		right := show(r, 2, 1, 2).Share
		wrong := r.add(right, r.small(1))
		for _, order := range [][]string{{"right", "offer"}, {"offer", "right"}, {"wrong", "right", "offer"}, {"right", "wrong", "offer"}, {"wrong", "offer", "right"}, {"right", "offer", "wrong"}, {"right", "offer", "right"}} {
			x := trustee(t, r, 2, 2, 2)
			x.See(l[1])
			for _, what := range order {
				switch what {
				case "right":
					x.Hear(1, right)
				case "wrong":
					x.Hear(1, wrong)
				case "offer":
					x.See(l[0])
				}
			}
			if b := x.Blames(); len(b) > 0 {
				t.Errorf("%v: it blames: %v", order, b)
			}
			secret, e := x.Secret()
			same(t, "the secret", secret, e, r.add(right, modelDeal(r, 2, 2, seedOf(2)).Shares[1]))
		}
	})
}

// TestH6From: a share counts for who has given it alone.
func TestH6From(t *testing.T) {
	r := rings()[1]
	x := trustee(t, r, 2, 3, 3)
	x.Hear(1, show(r, 2, 2, 3).Share)
	x.Hear(2, show(r, 2, 1, 3).Share)
	for _, p := range offers(r, 2, 3) {
		x.See(p)
	}
	same(t, "Blames", x.Blames(), api.OK, []api.Post{blame(3, 1), blame(3, 2)})
}

func TestH6Blames(t *testing.T) {
	kinds(t, func(t *testing.T, r ring) {
		l := trustees(t, r, 2, 4)
		if b := l[0].Blames(); len(b) > 0 {
			t.Errorf("nobody deals, and %v comes", b)
		}
		give(t, l, 2, 1)
		see(l, offers(r, 2, 4)...)
		for range 2 {
			same(t, "Blames", l[0].Blames(), api.OK, []api.Post{blame(1, 3), blame(1, 4)})
		}
		see(l, blame(2, 3), blame(3, 1), blame(4, 1))
		same(t, "others blame", l[0].Blames(), api.OK, []api.Post{blame(1, 3), blame(1, 4)})
		see(l, blame(1, 4))
		same(t, "one is seen", l[0].Blames(), api.OK, []api.Post{blame(1, 3)})
		give(t, l, 3, 1)
		if b := l[0].Blames(); len(b) > 0 {
			t.Errorf("all is known or blamed, and %v comes", b)
		}
		same(t, "of another one", l[2].Blames(), api.OK, []api.Post{blame(3, 2), blame(3, 4)})
	})
}

func TestH6Shows(t *testing.T) {
	kinds(t, func(t *testing.T, r ring) {
		l := trustees(t, r, 3, 4)
		if s := l[1].Shows(); len(s) > 0 {
			t.Errorf("nobody blames, and %v comes", s)
		}
		see(l, offers(r, 3, 4)...)
		see(l, blame(4, 2), blame(2, 2), blame(1, 3), blame(1, 2), blame(1, 2))
		for range 2 {
			same(t, "Shows", l[1].Shows(), api.OK, []api.Post{show(r, 3, 2, 1), show(r, 3, 2, 4)})
		}
		see(l, show(r, 3, 2, 4))
		same(t, "one is seen", l[1].Shows(), api.OK, []api.Post{show(r, 3, 2, 1)})
		wrong := show(r, 3, 2, 1)
		wrong.Share = r.add(wrong.Share, r.small(1))
		see(l, wrong)
		same(t, "a wrong one is seen", l[1].Shows(), api.OK, []api.Post{show(r, 3, 2, 1)})
		see(l, show(r, 3, 2, 1))
		if s := l[1].Shows(); len(s) > 0 {
			t.Errorf("all is shown, and %v comes", s)
		}
		same(t, "of another one", l[2].Shows(), api.OK, []api.Post{show(r, 3, 3, 1)})
	})
}

// TestH6Shown: what was shown is known to whom it was for.
func TestH6Shown(t *testing.T) {
	kinds(t, func(t *testing.T, r ring) {
		l := trustees(t, r, 2, 2)
		see(l, offers(r, 2, 2)...)
		give(t, l, 1, 2)
		see(l, l[0].Blames()...)
		s, e := l[0].Secret()
		fails(t, "a blame is open", s == "", e, api.ErrFew)
		see(l, l[1].Shows()...)
		posts := append(offers(r, 2, 2), blame(1, 2), show(r, 2, 2, 1))
		settled, _ := trust.Settle(r.kind, 2, 2, posts)
		for i, x := range l {
			s, e := x.Secret()
			public, _ := sigma.Public(r.kind, s)
			same(t, "the public key", public, e, settled.Publics[i])
		}
	})
}

// TestH6Other: another offer was taken in a trustee's name: its own share does not fit, and it shows what it has.
func TestH6Other(t *testing.T) {
	kinds(t, func(t *testing.T, r ring) {
		x := trustee(t, r, 1, 2, 1)
		x.See(modelOffer(r, 1, 2, 1, "another seed"))
		s, e := x.Secret()
		fails(t, "the secret", s == "", e, api.ErrNone)
		if b := x.Blames(); len(b) > 0 {
			t.Errorf("it blames itself: %v", b)
		}
		x.See(blame(2, 1))
		same(t, "Shows", x.Shows(), api.OK, []api.Post{show(r, 1, 1, 2)})
	})
}

func TestH7Secret(t *testing.T) {
	kinds(t, func(t *testing.T, r ring) {
		for _, c := range [][2]int{{1, 1}, {2, 3}, {3, 5}, {8, 8}} {
			need, of := c[0], c[1]
			l := trustees(t, r, need, of)
			s, e := l[0].Secret()
			fails(t, "nothing was seen", s == "", e, api.ErrFew)
			for from := 1; from <= of; from++ {
				see(l, l[from-1].Offer())
				for to := 1; to <= of; to++ {
					if to != from {
						give(t, l, from, to)
					}
				}
			}
			settled, _ := trust.Settle(r.kind, need, of, offers(r, need, of))
			var at []int
			var secrets []string
			for i, x := range l {
				if len(x.Blames()) > 0 || len(x.Shows()) > 0 {
					t.Error("there is something to post")
				}
				s, e := x.Secret()
				same(t, "the public key", r.raised(s), e, settled.Publics[i])
				at, secrets = append(at, i+1), append(secrets, s)
			}
			whole, e := trust.Through(r.kind, at[of-need:], secrets[of-need:], 0)
			same(t, "the key", r.raised(whole), e, settled.Key)
		}
	})
}

func TestH7None(t *testing.T) {
	kinds(t, func(t *testing.T, r ring) {
		l := trustees(t, r, 2, 3)
		see(l, offers(r, 2, 3)...)
		give(t, l, 2, 1)
		s, e := l[0].Secret()
		fails(t, "a share is not known", s == "", e, api.ErrNone)
		// Who does not count needs not be known.
		see(l, blame(1, 3))
		s, e = l[0].Secret()
		same(t, "without who does not count", s, e, r.add(show(r, 2, 2, 1).Share, show(r, 2, 1, 1).Share))
		see(l, blame(1, 2))
		s, e = l[0].Secret()
		fails(t, "too few count", s == "", e, api.ErrFew)
	})
}

// TestH7Long: of more posts than a key may come of there is no secret, but what there is to post is told all the same.
func TestH7Long(t *testing.T) {
	kinds(t, func(t *testing.T, r ring) {
		x := trustee(t, r, 1, 2, 1)
		for range 1023 {
			x.See(api.Post{})
		}
		x.See(x.Offer())
		s, e := x.Secret()
		same(t, "as many as may be", s, e, modelDeal(r, 1, 2, seedOf(1)).Shares[0])
		x.See(api.Post{Do: 9})
		s, e = x.Secret()
		fails(t, "one more", s == "", e, api.ErrLong)
		x.See(blame(2, 1))
		x.See(offers(r, 1, 2)[1])
		same(t, "Shows", x.Shows(), api.OK, []api.Post{show(r, 1, 1, 2)})
		same(t, "Blames", x.Blames(), api.OK, []api.Post{blame(1, 2)})
		s, e = x.Secret()
		fails(t, "and more", s == "", e, api.ErrLong)
	})
}

// stranger is a post that may be taken, or not.
func stranger(r ring, d *rand.Rand, need, of int) api.Post {
	from, about := d.IntN(of+2), d.IntN(of+2)
	switch d.IntN(8) {
	case 0, 1:
		p := modelOffer(r, need, of, max(1, min(from, of)), seedOf(max(1, min(from, of))))
		switch d.IntN(6) {
		case 0:
			p.Commits[len(p.Commits)-1] = r.any(d)
		case 1:
			p.Commits = p.Commits[:len(p.Commits)-1]
		case 2:
			p.From = from
			p.Proof.Challenge = r.any(d)
		}
		return p
	case 2, 3:
		return blame(from, about)
	case 4, 5:
		return show(r, need, from, about)
	case 6:
		return api.Post{Do: api.PostShow, From: from, About: about, Share: r.any(d)}
	}
	return api.Post{Do: d.IntN(6) - 1, From: from, About: about}
}

// TestH6Walks holds trustees against what the document says, on walks that nobody has thought of.
func TestH6Walks(t *testing.T) {
	kinds(t, func(t *testing.T, r ring) {
		d := dice()
		settledOnce, blamedOnce, shownOnce := 0, 0, 0
		for range []int{60, 30, 10}[r.kind-1] {
			of := 1 + d.IntN(5)
			need := 1 + d.IntN(of)
			l := trustees(t, r, need, of)
			models := make([]modelTrustee, of)
			for i := range models {
				models[i] = modelTrustee{me: i + 1, deal: modelDeal(r, need, of, seedOf(i+1))}
			}
			var posts []api.Post
			post := func(p api.Post) {
				posts = append(posts, p)
				see(l, p)
			}
			for range 25 {
				switch who := d.IntN(of); d.IntN(5) {
				case 0:
					from := 1 + d.IntN(of)
					share := models[from-1].deal.Shares[who]
					if d.IntN(4) == 0 {
						share = r.any(d)
					}
					if l[who].Hear(from, share) == api.OK {
						models[who].heard = append(models[who].heard, modelWord{from, share})
					}
				case 1:
					post(l[who].Offer())
				case 2:
					for _, p := range l[who].Blames() {
						post(p)
					}
				case 3:
					for _, p := range l[who].Shows() {
						post(p)
					}
				case 4:
					post(stranger(r, d, need, of))
				}
				b := modelTake(r, need, of, posts)
				who := d.IntN(of)
				if got, want := l[who].Blames(), models[who].blames(b); len(got)+len(want) > 0 {
					same(t, "Blames", got, api.OK, want)
					blamedOnce++
				}
				if got, want := l[who].Shows(), models[who].shows(b); len(got)+len(want) > 0 {
					same(t, "Shows", got, api.OK, want)
					shownOnce++
				}
				got, e := l[who].Secret()
				want, wantE := models[who].secret(b)
				if got != want || e != wantE {
					t.Errorf("Secret: %x comes, error %d, not %x, %d", got, e, want, wantE)
				}
				if settled, wantE := b.settle(); wantE == api.OK {
					settles(t, "Settle", r, need, of, posts, settled.Dealers...)
					settledOnce++
				}
			}
		}
		if settledOnce == 0 || blamedOnce == 0 || shownOnce == 0 {
			t.Errorf("%d, %d and %d times something came: the walks are too short", settledOnce, blamedOnce, shownOnce)
		}
	})
}

// TestE2Trustee: what is handed in is only read and not kept, and what is answered is new memory.
func TestE2Trustee(t *testing.T) {
	r := rings()[1]
	x := trustee(t, r, 2, 3, 1)
	first := x.Offer()
	_, _ = append(first.Commits, "behind"), append(first.Proof.Answers, "behind")
	first.Commits[1], first.Proof.Answers[0] = "x", "y"
	same(t, "Offer again", x.Offer(), api.OK, modelOffer(r, 2, 3, 1, seedOf(1)))
	p := offers(r, 2, 3)[1]
	p.Commits = append(p.Commits, "spare")[:2]
	kept := clonePost(p)
	x.See(p)
	same(t, "the post", p, api.OK, kept)
	same(t, "what is behind the commits", p.Commits[:3][2], api.OK, "spare")
	p.Commits[1], p.Proof.Answers[0] = r.small(1), "z"
	blames := x.Blames()
	blames[0].About = 3
	_ = append(blames, api.Post{})
	same(t, "Blames again", x.Blames(), api.OK, []api.Post{blame(1, 2)})
	x.Hear(2, show(r, 2, 2, 1).Share)
	if b := x.Blames(); len(b) > 0 {
		t.Error("the commits were kept as they were handed in")
	}
	x.See(x.Offer())
	x.See(blame(2, 1))
	shows := x.Shows()
	shows[0].Share = "x"
	same(t, "Shows again", x.Shows(), api.OK, []api.Post{show(r, 2, 1, 2)})
}

// TestE1Trustees: they do not know of one another.
func TestE1Trustees(t *testing.T) {
	r := rings()[1]
	a, b := trustee(t, r, 1, 2, 1), trustee(t, r, 1, 2, 1)
	a.See(a.Offer())
	a.See(offers(r, 1, 2)[1])
	a.Hear(2, r.small(1))
	if e := b.Hear(2, show(r, 1, 2, 1).Share); e != api.OK {
		t.Fatal(e)
	}
	s, e := b.Secret()
	fails(t, "nothing was seen", s == "", e, api.ErrFew)
	s, e = a.Secret()
	fails(t, "nothing was heard", s == "", e, api.ErrNone)
}

// TestE1See: whatever a post has, it is seen, and nothing comes of it.
func TestE1See(t *testing.T) {
	kinds(t, func(t *testing.T, r ring) {
		x := trustee(t, r, 2, 3, 1)
		numbers := append(noTrustees(3), 1, 2, 3)
		for _, do := range append(slices.Clone(numbers), 4) {
			for _, from := range numbers {
				for _, about := range numbers {
					x.See(api.Post{Do: do, From: from, About: about})
					x.See(api.Post{Do: do, From: from, About: about, Commits: []string{"", ""}, Share: "none"})
				}
			}
		}
		if len(x.Blames()) > 0 || len(x.Shows()) > 0 {
			t.Error("there is something to post")
		}
	})
}
