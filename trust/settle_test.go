package trust_test

import (
	"slices"
	"testing"

	"hustings/api"
	"hustings/trust"
)

// seedOf is what a trustee deals with in these tests.
func seedOf(x int) string { return string(rune('a' + x)) }

// offers are those of all trustees, in order.
func offers(r ring, need, of int) []api.Post {
	var out []api.Post
	for x := 1; x <= of; x++ {
		out = append(out, modelOffer(r, need, of, x, seedOf(x)))
	}
	return out
}

func blame(from, about int) api.Post {
	return api.Post{Do: api.PostBlame, From: from, About: about}
}

// show is the right answer to the blame of another trustee.
func show(r ring, need, from, about int) api.Post {
	return api.Post{Do: api.PostShow, From: from, About: about, Share: modelValue(r, modelCoefficients(r, need, seedOf(from)), about)}
}

// settles tells where the dealers that count are others, or something that comes of them.
func settles(t *testing.T, what string, r ring, need, of int, posts []api.Post, dealers ...int) {
	t.Helper()
	s, e := trust.Settle(r.kind, need, of, posts)
	want, wantE := modelTake(r, need, of, posts).settle()
	if wantE != api.OK {
		fails(t, what, noSettled(s), e, wantE)
		if len(dealers) > 0 {
			t.Errorf("%s: none count, not %d", what, dealers)
		}
		return
	}
	same(t, what, s, e, want)
	same(t, what, s.Dealers, e, dealers)
}

func TestH4Settle(t *testing.T) {
	kinds(t, func(t *testing.T, r ring) {
		for _, c := range [][2]int{{1, 1}, {1, 3}, {2, 2}, {2, 3}, {3, 5}, {1, 8}, {8, 8}} {
			var all []int
			for x := range c[1] {
				all = append(all, x+1)
			}
			posts := offers(r, c[0], c[1])
			settles(t, "all offers", r, c[0], c[1], posts, all...)
			slices.Reverse(posts)
			settles(t, "the other way round", r, c[0], c[1], posts, all...)
			settles(t, "just enough", r, c[0], c[1], posts[:c[0]], all[c[1]-c[0]:]...)
			settles(t, "one less", r, c[0], c[1], posts[:c[0]-1])
			settles(t, "none", r, c[0], c[1], nil)
		}
	})
}

// TestH4Key: any need of the public keys give the key, which is BASE to the sum of all secrets that were dealt.
func TestH4Key(t *testing.T) {
	kinds(t, func(t *testing.T, r ring) {
		s, e := trust.Settle(r.kind, 3, 6, offers(r, 3, 6))
		sum := r.small(0)
		for x := 1; x <= 6; x++ {
			sum = r.add(sum, modelCoefficients(r, 3, seedOf(x))[0])
		}
		same(t, "the key", s.Key, e, r.raised(sum))
		for _, at := range [][]int{{1, 2, 3}, {6, 1, 4}, {2, 5, 6}, {1, 2, 3, 4, 5, 6}} {
			var publics []string
			for _, x := range at {
				publics = append(publics, s.Publics[x-1])
			}
			key, e := trust.Together(r.kind, at, publics)
			same(t, "the key of some", key, e, s.Key)
		}
	})
}

func TestH4Offers(t *testing.T) {
	kinds(t, func(t *testing.T, r ring) {
		l := offers(r, 2, 3)
		wrong := func(what string, change func(p *api.Post)) {
			t.Helper()
			p := clonePost(l[1])
			change(&p)
			settles(t, what, r, 2, 3, []api.Post{l[0], p, l[2]}, 1, 3)
			settles(t, what+", then the right one", r, 2, 3, []api.Post{l[0], p, l[2], l[1]}, 1, 2, 3)
		}
		for _, x := range noTrustees(3) {
			wrong("by nobody", func(p *api.Post) { p.From = x })
		}
		for _, do := range []int{0, -1, 4, 257, 1 << 32, 1<<32 + 1, -1 << 63} {
			wrong("it does nothing", func(p *api.Post) { p.Do = do })
		}
		wrong("a commit less", func(p *api.Post) { p.Commits = p.Commits[:1] })
		wrong("a commit more", func(p *api.Post) { p.Commits = append(p.Commits, r.small(1)) })
		wrong("no commits", func(p *api.Post) { p.Commits = nil })
		for _, none := range r.noElems() {
			wrong("no element first", func(p *api.Post) { p.Commits[0] = none })
			wrong("no element last", func(p *api.Post) { p.Commits[1] = none })
		}
		for _, none := range r.noScalars() {
			wrong("no challenge", func(p *api.Post) { p.Proof.Challenge = none })
			wrong("no answer", func(p *api.Post) { p.Proof.Answers[0] = none })
		}
		wrong("no proof", func(p *api.Post) { p.Proof = api.Proof{} })
		wrong("two answers", func(p *api.Post) { p.Proof.Answers = slices.Repeat(p.Proof.Answers, 2) })
		if r.kind != api.Tiny {
			wrong("another answer", func(p *api.Post) { p.Proof.Answers[0] = r.add(p.Proof.Answers[0], r.small(1)) })
			wrong("another first commit", func(p *api.Post) { p.Commits[0] = r.times(p.Commits[0], r.small(2)) })
			wrong("the proof of another one", func(p *api.Post) { p.Commits, p.Proof = l[0].Commits, l[0].Proof })
		}
	})
}

// TestH4OffersTaken: what an offer has besides counts for nothing, nor does a second one.
func TestH4OffersTaken(t *testing.T) {
	kinds(t, func(t *testing.T, r ring) {
		l := offers(r, 2, 3)
		besides := clonePost(l[1])
		besides.About, besides.Share = -7, "share"
		settles(t, "with more", r, 2, 3, []api.Post{l[0], besides, l[2]}, 1, 2, 3)
		about := clonePost(l[1])
		about.About = 2
		settles(t, "about itself", r, 2, 3, []api.Post{l[0], about}, 1, 2)
		// The other commit is an element, and the proof is of the first one alone.
		lies := clonePost(l[1])
		lies.Commits[1] = r.times(lies.Commits[1], r.small(2))
		settles(t, "another second commit", r, 2, 3, []api.Post{l[0], lies, l[1]}, 1, 2)
		second := modelOffer(r, 2, 3, 2, "another seed")
		settles(t, "a second one", r, 2, 3, []api.Post{l[0], l[1], second}, 1, 2)
		settles(t, "the second one first", r, 2, 3, []api.Post{l[0], second, l[1]}, 1, 2)
		settles(t, "the same twice", r, 2, 3, []api.Post{l[0], l[0], l[0]})
	})
}

func TestH4Blames(t *testing.T) {
	kinds(t, func(t *testing.T, r ring) {
		l := offers(r, 2, 4)
		check := func(what string, dealers []int, posts ...api.Post) {
			t.Helper()
			settles(t, what, r, 2, 4, append(slices.Clone(l), posts...), dealers...)
		}
		all, others := []int{1, 2, 3, 4}, []int{1, 3, 4}
		check("a blame", others, blame(1, 2))
		check("a blame that is answered", all, blame(1, 2), show(r, 2, 2, 1))
		check("answered, and blamed again", all, blame(1, 2), show(r, 2, 2, 1), blame(1, 2))
		check("twice the same", all, blame(1, 2), blame(1, 2), show(r, 2, 2, 1))
		check("an answer ahead of the blame", others, show(r, 2, 2, 1), blame(1, 2))
		check("answered to another one", others, blame(1, 2), show(r, 2, 2, 3))
		check("answered by another one", others, blame(1, 2), show(r, 2, 1, 2), show(r, 2, 3, 1))
		check("as many as are needed", others, blame(1, 2), blame(3, 2), show(r, 2, 2, 1), show(r, 2, 2, 3))
		check("one of two answered", others, blame(1, 2), blame(3, 2), show(r, 2, 2, 1))
		check("one each", all, blame(1, 2), blame(2, 3), show(r, 2, 2, 1), show(r, 2, 3, 2))
		check("by each other", []int{3, 4}, blame(1, 2), blame(2, 1))
		check("about itself", all, blame(2, 2))
		for _, x := range noTrustees(4) {
			check("by nobody", all, blame(x, 2))
			check("about nobody", all, blame(2, x))
			check("a show by nobody", all, show(r, 2, x&7, 2), api.Post{Do: api.PostShow, From: x, About: 2})
			check("a show about nobody", others, blame(1, 2), api.Post{Do: api.PostShow, From: 2, About: x, Share: r.small(1)})
		}
		check("all of them", nil, blame(1, 2), blame(2, 3), blame(3, 4), blame(4, 1))
		// What they have besides counts for nothing.
		b, s := blame(1, 2), show(r, 2, 2, 1)
		b.Commits, b.Proof, b.Share = l[0].Commits, l[0].Proof, "share"
		s.Commits, s.Proof = l[0].Commits, l[0].Proof
		check("a blame with more", others, b)
		check("an answer with more", all, b, s)
	})
}

// TestH4Order: a blame ahead of the offer is passed over, and may be told again.
func TestH4Order(t *testing.T) {
	kinds(t, func(t *testing.T, r ring) {
		l := offers(r, 2, 3)
		settles(t, "a blame ahead of the offer", r, 2, 3, []api.Post{blame(1, 2), l[0], l[1], l[2]}, 1, 2, 3)
		settles(t, "told again", r, 2, 3, []api.Post{blame(1, 2), l[0], l[1], l[2], blame(1, 2)}, 1, 3)
		settles(t, "by who does not deal", r, 2, 3, []api.Post{l[1], l[2], blame(1, 2)})
		settles(t, "by who does not deal, answered", r, 2, 3, []api.Post{l[1], l[2], blame(1, 2), show(r, 2, 2, 1)}, 2, 3)
		settles(t, "by who deals later", r, 2, 3, []api.Post{l[1], blame(1, 2), l[2], show(r, 2, 2, 1), l[0]}, 1, 2, 3)
	})
}

// TestH4One: where one is enough, one blame is too much.
func TestH4One(t *testing.T) {
	kinds(t, func(t *testing.T, r ring) {
		l := offers(r, 1, 2)
		settles(t, "a blame", r, 1, 2, append(l, blame(1, 2), show(r, 1, 2, 1)), 1)
		settles(t, "two", r, 1, 2, append(l, blame(1, 2), show(r, 1, 2, 1), blame(2, 1), show(r, 1, 1, 2)))
	})
}

func TestH4Shows(t *testing.T) {
	kinds(t, func(t *testing.T, r ring) {
		begin := append(offers(r, 2, 3), blame(1, 2))
		right := show(r, 2, 2, 1)
		shares := append(r.noScalars(), r.add(right.Share, r.small(1)), r.small(0), r.text(number(right.Share).Add(number(right.Share), r.order)), show(r, 2, 2, 3).Share)
		for _, share := range shares {
			wrong := right
			wrong.Share = share
			settles(t, "another share", r, 2, 3, append(slices.Clone(begin), wrong), 1, 3)
			settles(t, "another share, then the right one", r, 2, 3, append(slices.Clone(begin), wrong, right), 1, 2, 3)
			settles(t, "the right one, then another one", r, 2, 3, append(slices.Clone(begin), right, wrong), 1, 2, 3)
		}
		// It fits what was offered, not what would have been.
		other := modelOffer(r, 2, 3, 2, "another seed")
		settles(t, "of another offer", r, 2, 3, []api.Post{begin[0], other, begin[2], blame(1, 2), right}, 1, 3)
	})
}

func TestH4Wrong(t *testing.T) {
	kinds(t, func(t *testing.T, r ring) {
		l := offers(r, 2, 3)
		long := slices.Repeat([]api.Post{{}}, 1025)
		for _, c := range wrongCircles() {
			for _, posts := range [][]api.Post{nil, l, long} {
				s, e := trust.Settle(r.kind, c[0], c[1], posts)
				fails(t, "a wrong circle", noSettled(s), e, api.ErrRange)
				s, e = trust.Settle(0, c[0], c[1], posts)
				fails(t, "no kind, and a wrong circle", noSettled(s), e, api.ErrKind)
			}
		}
		for _, kind := range noKinds() {
			for _, posts := range [][]api.Post{nil, l, long} {
				s, e := trust.Settle(kind, 2, 3, posts)
				fails(t, "no kind", noSettled(s), e, api.ErrKind)
			}
		}
		s, e := trust.Settle(r.kind, 2, 3, long)
		fails(t, "too many", noSettled(s), e, api.ErrLong)
		s, e = trust.Settle(r.kind, 2, 3, append(slices.Clone(l), long[3:]...))
		fails(t, "too many, with the right ones", noSettled(s), e, api.ErrLong)
		settles(t, "as many as may be", r, 2, 3, append(slices.Clone(long[3:1024]), l...), 1, 2, 3)
		s, e = trust.Settle(r.kind, 2, 3, long[:1024])
		fails(t, "as many as may be, but nothing", noSettled(s), e, api.ErrFew)
		other := rings()[r.kind%3]
		s, e = trust.Settle(r.kind, 2, 3, offers(other, 2, 3))
		fails(t, "of another kind", noSettled(s), e, api.ErrFew)
	})
}

// TestE1Settle: many posts that are hard to look into do not take long.
func TestE1Settle(t *testing.T) {
	r := rings()[2]
	p := modelOffer(r, 8, 8, 3, "seed")
	p.Proof.Answers[0] = r.small(5)
	s, e := trust.Settle(r.kind, 8, 8, slices.Repeat([]api.Post{p}, 1024))
	fails(t, "offers", noSettled(s), e, api.ErrFew)
	l := append(offers(r, 8, 8), blame(1, 2))
	l = append(l, slices.Repeat([]api.Post{{Do: api.PostShow, From: 2, About: 1, Share: r.small(5)}}, 1024-len(l))...)
	s, e = trust.Settle(r.kind, 8, 8, l)
	fails(t, "shows", noSettled(s), e, api.ErrFew)
}

// TestE2Settle: posts are only read, and what is answered is new memory.
func TestE2Settle(t *testing.T) {
	r := rings()[1]
	for of := 1; of <= 2; of++ {
		l := offers(r, 1, of)
		var kept []api.Post
		for i := range l {
			l[i].Commits = append(l[i].Commits, "spare")[:1]
			kept = append(kept, clonePost(l[i]))
		}
		want, _ := modelTake(r, 1, of, kept).settle()
		s, e := trust.Settle(r.kind, 1, of, l)
		same(t, "Settle", s, e, want)
		_, _ = append(s.Dealers, 7), append(s.Publics, "behind")
		s.Dealers[0], s.Publics[0] = 9, "x"
		again, e := trust.Settle(r.kind, 1, of, l)
		same(t, "Settle again", again, e, want)
		same(t, "the posts", l, api.OK, kept)
		same(t, "what is behind the commits", l[0].Commits[:2][1], api.OK, "spare")
	}
}
