package tally_test

import (
	"fmt"
	"slices"
	"testing"

	"hustings/api"
	"hustings/ballot"
	"hustings/tally"
	"hustings/trust"
)

// sharesOf are those of all trustees, in order.
func (a town) sharesOf(c api.Cipher) []api.Share {
	var out []api.Share
	for i, secret := range a.secrets {
		out = append(out, shareModel(a.m, "label", i+1, secret, c, "seed"))
	}
	return out
}

// picked are some of a list, by their places.
func picked(l []api.Share, places []int) []api.Share {
	var out []api.Share
	for _, i := range places {
		out = append(out, l[i])
	}
	return out
}

// TestY3Shown: whoever of the trustees come together, in whatever order: if they are enough, all show the same.
func TestY3Shown(t *testing.T) {
	kinds(t, func(t *testing.T, r ring) {
		d := dice()
		sizes(func(need, of int) {
			if r.kind == api.Full && of > 5 {
				return
			}
			a := r.anyTown(d, need, of)
			x := r.any(d)
			c := a.hide(x, r.any(d))
			all := a.sharesOf(c)
			for some := range 1 << of {
				places := slices.DeleteFunc(d.Perm(of), func(i int) bool { return some>>i&1 == 0 })
				got, e := tally.Shown(a.m, "label", c, picked(all, places))
				name := fmt.Sprint(need, " of ", of, " by ", places)
				if len(places) < need {
					fails(t, name, got == "", e, api.ErrFew)
				} else {
					same(t, name, got, e, r.raised(x))
				}
			}
		})
	})
}

// TestY3Full: as many trustees as may be in the group of elections.
func TestY3Full(t *testing.T) {
	r, d := ringOf(api.Full), dice()
	for need := 1; need <= 8; need++ {
		a := r.anyTown(d, need, 8)
		c := a.hide(r.small(99), r.any(d))
		all := a.sharesOf(c)
		got, e := tally.Open(a.m, "label", c, picked(all, d.Perm(8)[:need]), 100)
		same(t, fmt.Sprint(need, " of 8"), got, e, 99)
		got, e = tally.Open(a.m, "label", c, picked(all, d.Perm(8)[:need-1]), 100)
		fails(t, fmt.Sprint(need-1, " of 8"), got == 0, e, api.ErrFew)
	}
}

// TestY3Twice: the same trustee twice is one.
func TestY3Twice(t *testing.T) {
	kinds(t, func(t *testing.T, r ring) {
		a := r.anyTown(dice(), 3, 5)
		c := a.hide(r.small(4), r.small(9))
		all := a.sharesOf(c)
		for _, places := range [][]int{nil, {}, {1}, {1, 1, 1}, {0, 4, 0, 4, 4, 0}} {
			got, e := tally.Shown(a.m, "label", c, picked(all, places))
			fails(t, fmt.Sprint(places), got == "", e, api.ErrFew)
			n, e := tally.Open(a.m, "label", c, picked(all, places), 10)
			fails(t, fmt.Sprint(places), n == 0, e, api.ErrFew)
		}
		for _, places := range [][]int{{4, 4, 2, 2, 0}, {2, 1, 2, 1, 2, 1, 3}, {0, 0, 0, 0, 0, 0, 0, 0, 0, 1, 2, 3, 4}} {
			got, e := tally.Open(a.m, "label", c, picked(all, places), 10)
			same(t, fmt.Sprint(places), got, e, 4)
		}
	})
}

// TestY3WrongShares: shares that are not right are passed over, wherever they stand, by whomever they claim to be.
func TestY3WrongShares(t *testing.T) {
	for _, kind := range []int{api.Short, api.Full} {
		r := ringOf(kind)
		a := r.anyTown(dice(), 2, 3)
		c := a.hide(r.small(4), r.small(9))
		all := a.sharesOf(c)
		var junk []api.Share
		for i := range all {
			for _, do := range []func(s *api.Share){
				func(s *api.Share) { s.Value = r.times(s.Value, r.small(2)) },
				func(s *api.Share) { s.Value = "" },
				func(s *api.Share) { s.Trustee = s.Trustee%3 + 1 },
				func(s *api.Share) { s.Trustee += 3 },
				func(s *api.Share) { s.Trustee += 1 << 32 },
				func(s *api.Share) { s.Trustee = least },
				func(s *api.Share) { s.Proof = api.Proof{} },
				func(s *api.Share) { s.Proof.Answers = make([]string, 100) },
			} {
				s := all[i]
				do(&s)
				junk = append(junk, s)
			}
			junk = append(junk, shareModel(a.m, "other", i+1, a.secrets[i], c, "seed"))
			junk = append(junk, shareModel(a.m, "label", i+1, a.secrets[i], a.hide(r.small(5), r.small(9)), "seed"))
		}
		got, e := tally.Shown(a.m, "label", c, junk)
		fails(t, "no right one", got == "", e, api.ErrFew)
		got, e = tally.Shown(a.m, "label", c, append(slices.Clone(junk), all[1]))
		fails(t, "one right one", got == "", e, api.ErrFew)
		for _, l := range [][]api.Share{
			slices.Concat(junk, all[1:]), slices.Concat(all[1:], junk), slices.Concat(all[:1], junk, all[2:]),
		} {
			got, e := tally.Open(a.m, "label", c, l, 10)
			same(t, "two right ones", got, e, 4)
		}
	}
}

// TestY3LeastNumbers: where the trustees' keys don't lie on one polynomial, it shows who is taken: the least numbers that have
// a right share, not the first ones in the list.
func TestY3LeastNumbers(t *testing.T) {
	kinds(t, func(t *testing.T, r ring) {
		d := dice()
		for need := 1; need <= 4; need++ {
			a := r.townOf(need, r.anyOnes(d, 5))
			c := api.Cipher{A: r.any(d), B: r.any(d)}
			all := a.sharesOf(c)
			for range 20 {
				l := picked(all, d.Perm(5)[:d.IntN(6)])
				for range d.IntN(3) {
					l = slices.Insert(l, d.IntN(len(l)+1), api.Share{Trustee: 1 + d.IntN(5), Value: r.small(2)})
				}
				want, wantE := shownModel(a.m, "label", c, l)
				got, e := tally.Shown(a.m, "label", c, l)
				agrees(t, fmt.Sprint(need, " of 5"), got, e, want, wantE)
			}
		}
	})
}

// forged are shares of a trustee that are right by chance: in the smallest group they can be found.
func (a town) forged(trustee int, c api.Cipher, n int) []api.Share {
	d := dice()
	var out []api.Share
	for len(out) < n {
		s := api.Share{Trustee: trustee, Value: a.any(d), Proof: api.Proof{Challenge: a.any(d), Answers: []string{a.any(d)}}}
		if rightModel(a.m, "label", c, s) {
			out = append(out, s)
		}
	}
	return out
}

// TestY3FirstRight: of two right shares of one trustee the first one counts.
func TestY3FirstRight(t *testing.T) {
	r, d := ringOf(api.Tiny), dice()
	a := r.anyTown(d, 2, 3)
	c := a.hide(r.small(4), r.small(9))
	all := a.sharesOf(c)
	two := a.forged(2, c, 2)
	shown := func(l ...api.Share) string {
		t.Helper()
		want, wantE := shownModel(a.m, "label", c, l)
		got, e := tally.Shown(a.m, "label", c, l)
		agrees(t, "Shown", got, e, want, wantE)
		return got
	}
	holds(t, "the right one alone", shown(all[0], all[1]) == r.raised(r.small(4)), true)
	holds(t, "the right one ahead", shown(all[1], two[0], two[1], all[0]) == r.raised(r.small(4)), true)
	holds(t, "a forged one ahead", shown(two[0], all[1], all[0]) == r.raised(r.small(4)), false)
	holds(t, "one of both", shown(two[0], two[1], all[0]) == shown(two[1], two[0], all[0]), false)
	holds(t, "a wrong one ahead", shown(api.Share{Trustee: 2, Value: two[0].Value}, all[1], two[0], all[0]) == r.raised(r.small(4)), true)
	holds(t, "it is not needed", shown(two[0], all[2], all[0]) == r.raised(r.small(4)), false)
	l := append(slices.Concat(all, two), a.forged(1, c, 3)...)
	l = append(l, a.forged(3, c, 3)...)
	for range 200 {
		d.Shuffle(len(l), func(i, k int) { l[i], l[k] = l[k], l[i] })
		shown(l[:d.IntN(len(l)+1)]...)
	}
}

// openArgs is what Open and Shown are handed.
type openArgs struct {
	m      api.Manifest
	label  string
	c      api.Cipher
	shares []api.Share
}

// TestY3Wrong: each fault by itself, and each two together, of Shown and of Open, with a right most and with a wrong one.
func TestY3Wrong(t *testing.T) {
	r := ringOf(api.Short)
	town := r.anyTown(dice(), 3, 4)
	c := town.hide(r.small(4), r.small(9))
	shares := town.sharesOf(c)
	all := inManifest(r, wrongManifest, func(a *openArgs) *api.Manifest { return &a.m })
	add := func(name string, rank int, e api.Errno, do func(a *openArgs)) {
		all = append(all, fault[openArgs]{name, rank, e, do})
	}
	for _, none := range r.noElems() {
		add("A", wrongCipher, api.ErrElem, func(a *openArgs) { a.c.A = none })
		add("B", wrongCipher, api.ErrElem, func(a *openArgs) { a.c.B = none })
	}
	few := func(name string, do func(a *openArgs)) { add(name, wrongShares, api.ErrFew, do) }
	few("no shares", func(a *openArgs) { a.shares = nil })
	few("an empty list", func(a *openArgs) { a.shares = []api.Share{} })
	few("two shares", func(a *openArgs) { a.shares = a.shares[1:3] })
	few("many empty ones", func(a *openArgs) { a.shares = make([]api.Share, 1<<12) })
	few("two wrong ones", func(a *openArgs) { a.shares[0].Value, a.shares[1].Value = a.shares[1].Value, a.shares[0].Value })
	few("another label", func(a *openArgs) { a.label = "other" })
	few("another A", func(a *openArgs) { a.c.A = r.small(2) })
	few("another B", func(a *openArgs) { a.c.B = r.small(2) })
	few("two other trustees", func(a *openArgs) { a.m.Trustees[2], a.m.Trustees[3] = a.m.Trustees[3], a.m.Trustees[2] })
	wrongOnes(all, func(name string, do func(*openArgs), want api.Errno) {
		t.Helper()
		a := openArgs{cloneManifest(town.m), "label", c, cloneShares(shares)}
		do(&a)
		got, e := tally.Shown(a.m, a.label, a.c, a.shares)
		fails(t, name, got == "", e, want)
		n, e := tally.Open(a.m, a.label, a.c, a.shares, 4)
		fails(t, name, n == 0, e, want)
		for _, none := range []int{-1, 1<<20 + 1} {
			n, e = tally.Open(a.m, a.label, a.c, a.shares, none)
			fails(t, name, n == 0, e, api.ErrRange)
		}
	})
}

// TestY3Most: what is above most is not found, what is not above is; most has its own edges.
func TestY3Most(t *testing.T) {
	kinds(t, func(t *testing.T, r ring) {
		a := r.anyTown(dice(), 2, 3)
		for _, x := range []int64{0, 1, 2, 9, 640} {
			c := a.hide(r.small(x), r.small(9))
			all := a.sharesOf(c)
			for _, top := range []int{0, 1, 2, 8, 9, 10, 639, 640, 641, 5000} {
				want, wantE := openModel(a.m, "label", c, all, top)
				got, e := tally.Open(a.m, "label", c, all, top)
				agrees(t, fmt.Sprint(x, " up to ", top), got, e, want, wantE)
			}
			for _, none := range []int{-1, 1<<20 + 1, 1 << 32, least, most} {
				got, e := tally.Open(a.m, "label", c, all, none)
				fails(t, fmt.Sprint(x, " up to ", none), got == 0, e, api.ErrRange)
			}
			got, e := tally.Open(a.m, "label", c, all, 1<<20)
			same(t, fmt.Sprint(x, " up to all"), got, e, int(x))
		}
	})
}

// TestY3Greatest: the greatest number that can be found, and the one behind it.
func TestY3Greatest(t *testing.T) {
	for _, kind := range []int{api.Short, api.Full} {
		r := ringOf(kind)
		a := r.anyTown(dice(), 2, 3)
		open := func(x string, top int) (int, api.Errno) {
			c := a.hide(x, r.small(9))
			return tally.Open(a.m, "label", c, a.sharesOf(c), top)
		}
		got, e := open(r.small(1<<20), 1<<20)
		same(t, "2^20", got, e, 1<<20)
		got, e = open(r.small(1<<20), 1<<20-1)
		fails(t, "2^20, one less", got == 0, e, api.ErrNone)
		got, e = open(r.small(1<<20+1), 1<<20)
		fails(t, "2^20 + 1", got == 0, e, api.ErrNone)
		got, e = open(r.last(), 1<<20)
		fails(t, "-1", got == 0, e, api.ErrNone)
	}
}

// TestY3Least: in the smallest group powers come round: the least number is told.
func TestY3Least(t *testing.T) {
	r := ringOf(api.Tiny)
	a := r.anyTown(dice(), 1, 1)
	for x := range int64(641) {
		c := a.hide(r.small(x), r.small(9))
		got, e := tally.Open(a.m, "label", c, a.sharesOf(c), 1<<20)
		same(t, fmt.Sprint(x), got, e, int(x))
	}
}

// TestY3Ballots: what trustees who came to a key together open is the sum of what was marked.
func TestY3Ballots(t *testing.T) {
	kinds(t, func(t *testing.T, r ring) {
		var trustees []*trust.Trustee
		for me := range 3 {
			one, _ := trust.NewTrustee(r.kind, 2, 3, me+1, fmt.Sprint("seed ", me))
			trustees = append(trustees, one)
		}
		var posts []api.Post
		for i, one := range trustees {
			posts = append(posts, one.Offer())
			for k, other := range trustees {
				if share, _ := one.Share(k + 1); k != i {
					other.Hear(i+1, share)
				}
			}
		}
		for _, p := range posts {
			for _, one := range trustees {
				one.See(p)
			}
		}
		settled, _ := trust.Settle(r.kind, 2, 3, posts)
		m := r.townOf(2, nil).m
		m.Trustees = settled.Publics
		key, e := tally.Key(m)
		same(t, "Key", key, e, settled.Key)
		totals := []int{0, 0, 0}
		hidden := make([][]api.Cipher, 3)
		for i, marks := range [][]int{{1, 0, 1}, {1, 1, 0}, {0, 0, 0}, {1, 0, 0}} {
			b, e := ballot.Fill(m, key, "eve", 0, [][]int{marks, {1}}, fmt.Sprint(i))
			fails(t, "Fill", true, e, api.OK)
			for option, x := range marks {
				totals[option] += x
				hidden[option] = append(hidden[option], b.Parts[0].Ciphers[option])
			}
		}
		for option, l := range hidden {
			sum, _ := ballot.Sum(r.kind, l)
			var shares []api.Share
			for i, one := range trustees {
				secret, _ := one.Secret()
				s, e := tally.Share(m, "label", i+1, secret, sum, "seed")
				fails(t, "Share", true, e, api.OK)
				shares = append(shares, s)
			}
			for _, some := range [][]api.Share{shares, shares[:2], shares[1:], {shares[2], shares[0]}} {
				got, e := tally.Open(m, "label", sum, some, 4)
				same(t, fmt.Sprint("option ", option), got, e, totals[option])
			}
		}
	})
}

// TestE2Open: what is handed in is only read.
func TestE2Open(t *testing.T) {
	r := ringOf(api.Short)
	a := r.anyTown(dice(), 2, 3)
	c := a.hide(r.small(4), r.small(9))
	all := a.sharesOf(c)
	slices.Reverse(all)
	m, in := cloneManifest(a.m), cloneShares(all)
	got, e := tally.Open(m, "label", c, in, 10)
	same(t, "Open", got, e, 4)
	shown, e := tally.Shown(m, "label", c, in)
	same(t, "Shown", shown, e, r.small(16))
	manifestUntouched(t, m, a.m)
	same(t, "the shares", in, api.OK, all)
	same(t, "the room behind the shares", in[len(in):cap(in)], api.OK, make([]api.Share, 5))
	for _, s := range in {
		same(t, "the room behind the answers", s.Proof.Answers[1:cap(s.Proof.Answers)], api.OK, make([]string, 5))
	}
}
