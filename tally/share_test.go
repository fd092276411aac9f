package tally_test

import (
	"fmt"
	"slices"
	"strings"
	"testing"

	"hustings/api"
	"hustings/fold"
	"hustings/sigma"
	"hustings/tally"
)

// shareArgs is what Share is handed.
type shareArgs struct {
	m       api.Manifest
	label   string
	trustee int
	secret  string
	c       api.Cipher
	seed    string
}

func (a shareArgs) share() (api.Share, api.Errno) {
	return tally.Share(a.m, a.label, a.trustee, a.secret, a.c, a.seed)
}

func TestY2Share(t *testing.T) {
	kinds(t, func(t *testing.T, r ring) {
		d := dice()
		texts := []string{"", "label", "\x00\xff", strings.Repeat("long", 100)}
		sizes(func(need, of int) {
			a := r.anyTown(d, need, of)
			c := api.Cipher{A: r.any(d), B: r.any(d)}
			for i, secret := range a.secrets {
				label, seed := texts[d.IntN(4)], texts[d.IntN(4)]
				got, e := tally.Share(a.m, label, i+1, secret, c, seed)
				same(t, fmt.Sprint("trustee ", i+1, " of ", of), got, e, shareModel(a.m, label, i+1, secret, c, seed))
				holds(t, "Right", tally.Right(a.m, label, c, got), true)
				same(t, "Value", got.Value, e, r.power(c.A, secret))
			}
		})
	})
}

// TestY2Edges: secrets and elements at the edge; keys that are alike, or not on one polynomial.
func TestY2Edges(t *testing.T) {
	kinds(t, func(t *testing.T, r ring) {
		secrets := []string{r.small(0), r.small(1), r.small(1), r.last(), r.small(17)}
		a := r.townOf(2, secrets)
		elems := []string{r.small(1), r.small(2), r.text(r.order), r.small(7)}
		for i, secret := range secrets {
			for _, one := range elems {
				for _, other := range elems {
					c := api.Cipher{A: one, B: other}
					got, e := tally.Share(a.m, "label", i+1, secret, c, "seed")
					same(t, short(c), got, e, shareModel(a.m, "label", i+1, secret, c, "seed"))
					holds(t, "Right", tally.Right(a.m, "label", c, got), true)
				}
			}
		}
	})
}

// TestY2Seed: the value hangs on no seed, the proof does; any of them is right.
func TestY2Seed(t *testing.T) {
	for _, kind := range []int{api.Short, api.Full} {
		r := ringOf(kind)
		a := r.anyTown(dice(), 2, 3)
		c := a.hide(r.small(5), r.small(6))
		one, _ := tally.Share(a.m, "label", 2, a.secrets[1], c, "one")
		two, _ := tally.Share(a.m, "label", 2, a.secrets[1], c, "two")
		holds(t, "the same value", one.Value == two.Value, true)
		holds(t, "the same proof", one.Proof.Challenge == two.Proof.Challenge, false)
		holds(t, "one", tally.Right(a.m, "label", c, one), true)
		holds(t, "two", tally.Right(a.m, "label", c, two), true)
	}
}

// The order in which it is told what is wrong.
const (
	wrongManifest = iota
	wrongTrustee
	wrongSecret
	wrongKey
	wrongCipher
	wrongShares
)

// TestY2Wrong: each fault by itself, and each two together.
func TestY2Wrong(t *testing.T) {
	r := ringOf(api.Short)
	town := r.anyTown(dice(), 2, 4)
	all := inManifest(r, wrongManifest, func(a *shareArgs) *api.Manifest { return &a.m })
	add := func(name string, rank int, e api.Errno, do func(a *shareArgs)) {
		all = append(all, fault[shareArgs]{name, rank, e, do})
	}
	for _, none := range []int{0, -1, 5, 8, 9, 1<<32 + 2, least, least + 2, most} {
		add(fmt.Sprint("trustee ", none), wrongTrustee, api.ErrRange, func(a *shareArgs) { a.trustee = none })
	}
	for _, none := range r.noScalars() {
		add("secret", wrongSecret, api.ErrScalar, func(a *shareArgs) { a.secret = none })
	}
	add("one more", wrongKey, api.ErrProof, func(a *shareArgs) { a.secret = r.add(a.secret, r.small(1)) })
	add("0", wrongKey, api.ErrProof, func(a *shareArgs) { a.secret = r.small(0) })
	add("the secret of another one", wrongKey, api.ErrProof, func(a *shareArgs) { a.secret = town.secrets[2] })
	for _, none := range r.noElems() {
		add("A", wrongCipher, api.ErrElem, func(a *shareArgs) { a.c.A = none })
		add("B", wrongCipher, api.ErrElem, func(a *shareArgs) { a.c.B = none })
	}
	wrongOnes(all, func(name string, do func(*shareArgs), want api.Errno) {
		t.Helper()
		a := shareArgs{cloneManifest(town.m), "label", 2, town.secrets[1], town.hide(r.small(1), r.small(9)), "seed"}
		do(&a)
		got, e := a.share()
		fails(t, name, noShare(got), e, want)
	})
	got, e := tally.Share(api.Manifest{}, "", 0, "", api.Cipher{}, "")
	fails(t, "nothing", noShare(got), e, api.ErrKind)
}

// rightArgs is what Right is handed.
type rightArgs struct {
	m     api.Manifest
	label string
	c     api.Cipher
	s     api.Share
}

func (a rightArgs) right() bool { return tally.Right(a.m, a.label, a.c, a.s) }

// shared is a right share of the second trustee of four.
func (r ring) shared() (town, rightArgs) {
	a := r.anyTown(dice(), 2, 4)
	c := a.hide(r.small(1), r.small(9))
	s := shareModel(a.m, "label", 2, a.secrets[1], c, "seed")
	return a, rightArgs{cloneManifest(a.m), "label", c, cloneShares([]api.Share{s})[0]}
}

// TestY2Right: what is not right.
func TestY2Right(t *testing.T) {
	for _, kind := range []int{api.Short, api.Full} { // of Tiny there are so few challenges that one may fit by chance
		r := ringOf(kind)
		try := func(name string, want bool, do func(a *rightArgs)) {
			t.Helper()
			_, a := r.shared()
			do(&a)
			holds(t, name, a.right(), want)
		}
		no := func(name string, do func(a *rightArgs)) {
			t.Helper()
			try(name, false, do)
		}
		try("nothing", true, func(*rightArgs) {})
		for _, f := range manifestFaults(r) {
			no(f.name, func(a *rightArgs) { f.do(&a.m) })
		}
		for _, none := range []int{0, -1, 1, 3, 4, 5, 9, 1<<32 + 2, least, least + 2, most} {
			no(fmt.Sprint("trustee ", none), func(a *rightArgs) { a.s.Trustee = none })
		}
		for _, none := range append(r.noElems(), r.small(1), r.small(2), r.text(r.order)) {
			no("A", func(a *rightArgs) { a.c.A = none })
			no("B", func(a *rightArgs) { a.c.B = none })
			no("Value", func(a *rightArgs) { a.s.Value = none })
			no("public key", func(a *rightArgs) { a.m.Trustees[1] = none })
		}
		for _, none := range append(r.noScalars(), r.small(0), r.small(1)) {
			no("challenge", func(a *rightArgs) { a.s.Proof.Challenge = none })
			no("answer", func(a *rightArgs) { a.s.Proof.Answers[0] = none })
		}
		no("another label", func(a *rightArgs) { a.label = "labe" })
		no("no label", func(a *rightArgs) { a.label = "" })
		no("no answers", func(a *rightArgs) { a.s.Proof.Answers = nil })
		no("two answers", func(a *rightArgs) { a.s.Proof.Answers = append(a.s.Proof.Answers, a.s.Proof.Answers[0]) })
		no("very many answers", func(a *rightArgs) { a.s.Proof.Answers = make([]string, 1<<16) })
		no("no proof", func(a *rightArgs) { a.s.Proof = api.Proof{} })
		no("no share", func(a *rightArgs) { a.s = api.Share{} })
		no("no manifest", func(a *rightArgs) { a.m = api.Manifest{} })
		no("trustees changed", func(a *rightArgs) { slices.Reverse(a.m.Trustees) })
		try("all else of the manifest", true, func(a *rightArgs) {
			a.m.Name, a.m.Need, a.m.Mixes, a.m.Lots, a.m.Again = "city", 4, 8, "lots", true
			a.m.Trustees[0], a.m.Trustees[3] = r.small(4), r.small(4)
		})
		try("fewer trustees", true, func(a *rightArgs) { a.m.Trustees = a.m.Trustees[:2] })
		no("too few trustees", func(a *rightArgs) { a.m.Trustees, a.m.Need = a.m.Trustees[:1], 1 })
	}
}

// TestY2Proof: the proof stands under its own label, and is of its own claim.
func TestY2Proof(t *testing.T) {
	for _, kind := range []int{api.Short, api.Full} {
		r := ringOf(kind)
		town, a := r.shared()
		secret := town.secrets[1]
		two, label := four(2), labelModel("label", 2, a.c)
		claims := claimsModel(a.m, 2, a.c, a.s.Value)
		try := func(name, label string, claims []api.Claim, want bool) {
			t.Helper()
			p, e := sigma.Prove(kind, label, claims, slices.Repeat([]string{secret}, len(claims)), "another seed")
			fails(t, name, true, e, api.OK)
			a.s.Proof = p
			holds(t, name, a.right(), want)
		}
		try("right", label, claims, true)
		try("another number", labelModel("label", 1, a.c), claims, false)
		try("without a number", fold.Tag("share", []string{"label", a.c.A, a.c.B}), claims, false)
		try("without B", fold.Tag("share", []string{"label", two, a.c.A}), claims, false)
		try("without A", fold.Tag("share", []string{"label", two, a.c.B}), claims, false)
		try("A and B changed", fold.Tag("share", []string{"label", two, a.c.B, a.c.A}), claims, false)
		try("another tag", fold.Tag("shares", []string{"label", two, a.c.A, a.c.B}), claims, false)
		try("the label alone", "label", claims, false)
		base, image := claims[0].Bases, claims[0].Images
		try("the bases changed", label, []api.Claim{{Bases: []string{base[1], base[0]}, Images: []string{image[1], image[0]}}}, false)
		try("two claims", label, []api.Claim{{Bases: base[:1], Images: image[:1]}, {Bases: base[1:], Images: image[1:]}}, false)
		try("twice", label, []api.Claim{claims[0], claims[0]}, false)
		try("half of it", label, []api.Claim{{Bases: base[:1], Images: image[:1]}}, false)
	}
}

// TestY2Lie: a trustee who tells another value than their secret gives is found out, whatever they prove.
func TestY2Lie(t *testing.T) {
	for _, kind := range []int{api.Short, api.Full} {
		r := ringOf(kind)
		town, a := r.shared()
		a.s.Value = r.times(a.s.Value, r.small(2))
		holds(t, "the proof of the right value", a.right(), false)
		other := r.add(town.secrets[1], r.small(1))
		a.s.Value = r.power(a.c.A, other)
		claims := []api.Claim{{Bases: []string{r.small(2), a.c.A}, Images: []string{r.raised(other), a.s.Value}}}
		p, e := sigma.Prove(kind, labelModel("label", 2, a.c), claims, []string{other}, "seed")
		fails(t, "a proof by another secret", true, e, api.OK)
		a.s.Proof = p
		holds(t, "a proof by another secret", a.right(), false)
	}
}

// TestY2Alike: who has the same key as another trustee has shares of their own.
func TestY2Alike(t *testing.T) {
	r := ringOf(api.Full)
	a := r.townOf(1, []string{r.small(7), r.small(7)})
	c := api.Cipher{A: r.small(3), B: r.small(4)}
	s, e := tally.Share(a.m, "label", 1, r.small(7), c, "seed")
	fails(t, "Share", true, e, api.OK)
	holds(t, "by the first", tally.Right(a.m, "label", c, s), true)
	s.Trustee = 2
	holds(t, "by the second", tally.Right(a.m, "label", c, s), false)
}

// TestY2Tiny: in the smallest group a proof may be right by chance: Right tells what Verify does.
func TestY2Tiny(t *testing.T) {
	r, d := ringOf(api.Tiny), dice()
	_, a := r.shared()
	told := map[bool]int{}
	for range 3000 {
		a.s = api.Share{Trustee: 1 + d.IntN(4), Value: r.any(d), Proof: api.Proof{Challenge: r.any(d), Answers: []string{r.any(d)}}}
		want := rightModel(a.m, a.label, a.c, a.s)
		holds(t, short(a.s), a.right(), want)
		told[want]++
	}
	if told[true] == 0 {
		t.Error("nothing was right by chance")
	}
}

// TestE2Share: what is handed in is only read, and what is answered is new memory.
func TestE2Share(t *testing.T) {
	r := ringOf(api.Short)
	town, a := r.shared()
	in := cloneManifest(town.m)
	got, e := tally.Share(in, "label", 2, town.secrets[1], a.c, "seed")
	manifestUntouched(t, in, town.m)
	want := shareModel(town.m, "label", 2, town.secrets[1], a.c, "seed")
	same(t, "Share", got, e, want)
	for i := range in.Trustees {
		in.Trustees[i] = "spoiled"
	}
	same(t, "Share, when the manifest has changed", got, e, want)
	again, e := tally.Share(town.m, "label", 2, town.secrets[1], a.c, "seed")
	answers := got.Proof.Answers[:cap(got.Proof.Answers)]
	for i := range answers {
		answers[i] = "spoiled"
	}
	same(t, "Share, when another answer has changed", again, e, want)
}

// TestE2Right: what is handed in is only read.
func TestE2Right(t *testing.T) {
	town, a := ringOf(api.Short).shared()
	holds(t, "Right", a.right(), true)
	manifestUntouched(t, a.m, town.m)
	same(t, "the share", a.s, api.OK, shareModel(town.m, "label", 2, town.secrets[1], a.c, "seed"))
	same(t, "the room behind the answers", a.s.Proof.Answers[1:cap(a.s.Proof.Answers)], api.OK, make([]string, 5))
}
