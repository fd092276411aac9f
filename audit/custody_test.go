package audit_test

import (
	"fmt"
	"math/rand/v2"
	"slices"
	"strings"
	"testing"

	"hustings/api"
	"hustings/audit"
)

// boxes are a custody, and the model of it.
type boxes struct {
	t     *testing.T
	c     *audit.Custody
	model custodyModel
}

func newBoxes(t *testing.T) *boxes { return &boxes{t: t, c: audit.NewCustody()} }

// look holds what is told against the model.
func (b *boxes) look() {
	b.t.Helper()
	if got, want := slices.Collect(b.c.Boxes()), b.model.batches(); !slices.Equal(got, want) {
		b.t.Fatalf("%s are told, not %s", short(got), short(want))
	}
}

// gives does something of which the answer is known.
func (b *boxes) gives(want api.Errno, h api.Hand) {
	b.t.Helper()
	if model := b.model.handModel(h); model != want {
		b.t.Errorf("%s: the model tells %d, not %d", short(h), model, want)
	}
	if e := b.c.Hand(h); e != want {
		b.t.Errorf("%s: error %d comes, not %d", short(h), e, want)
	}
	b.look()
}

func pack(box, who string, n int, seal string) api.Hand {
	return api.Hand{Do: api.HandPack, Box: box, Who: who, Count: n, Seal: seal}
}

func give(box, who, to string) api.Hand {
	return api.Hand{Do: api.HandGive, Box: box, Who: who, To: to}
}

func take(box, who, seal string) api.Hand {
	return api.Hand{Do: api.HandTake, Box: box, Who: who, Seal: seal}
}

func open(box, who string, n int, seal string) api.Hand {
	return api.Hand{Do: api.HandOpen, Box: box, Who: who, Count: n, Seal: seal}
}

func shut(box, who string, n int, seal string) api.Hand {
	return api.Hand{Do: api.HandClose, Box: box, Who: who, Count: n, Seal: seal}
}

// tells looks at all boxes.
func (b *boxes) tells(want ...api.Batch) {
	b.t.Helper()
	if got := slices.Collect(b.c.Boxes()); !slices.Equal(got, want) {
		b.t.Errorf("%s are told, not %s", short(got), short(want))
	}
}

func TestU5Way(t *testing.T) {
	b := newBoxes(t)
	b.tells()
	b.gives(api.OK, pack("b", "ann", 50, "s1"))
	b.tells(api.Batch{Name: "b", Count: 50, Holder: "ann", Seal: "s1"})
	b.gives(api.OK, give("b", "ann", "bob")) // its holder is who gave it, on the way
	b.tells(api.Batch{Name: "b", Count: 50, Holder: "ann", Seal: "s1"})
	b.gives(api.OK, take("b", "bob", "s1"))
	b.tells(api.Batch{Name: "b", Count: 50, Holder: "bob", Seal: "s1"})
	b.gives(api.OK, open("b", "bob", 50, "s1"))
	b.tells(api.Batch{Name: "b", Count: 50, Holder: "bob"})
	b.gives(api.OK, shut("b", "bob", 49, "s2"))
	b.tells(api.Batch{Name: "b", Count: 49, Holder: "bob", Seal: "s2"})
	b.gives(api.OK, give("b", "bob", "bob")) // who gives something to themselves takes it, too
	b.gives(api.ErrState, open("b", "bob", 49, "s2"))
	b.gives(api.OK, take("b", "bob", "s2"))
	b.gives(api.OK, open("b", "bob", 49, "s2"))
	b.gives(api.OK, shut("b", "bob", 0, "s3"))
	b.gives(api.OK, pack("a", "cat", 0, "s4"))
	b.tells(api.Batch{Name: "a", Holder: "cat", Seal: "s4"}, api.Batch{Name: "b", Holder: "bob", Seal: "s3"})
}

func TestU6Form(t *testing.T) {
	long := strings.Repeat("w", 33)
	for do := range 5 {
		do++
		right := api.Hand{Do: do, Box: "b", Who: "ann", Seal: "s1"}
		if do == api.HandGive {
			right.Seal, right.To = "", "bob"
		}
		var wrong []api.Hand
		for _, s := range []string{"", " ", "a b", "a\n", "\x7f", "\x00", "é", long} {
			box, who, seal, to := right, right, right, right
			box.Box, who.Who, seal.Seal, to.To = s, s, s, s
			wrong = append(wrong, box, who)
			if do != api.HandGive || s != "" {
				wrong = append(wrong, seal)
			}
			if do == api.HandGive || s != "" {
				wrong = append(wrong, to)
			}
		}
		extra := right
		extra.Seal, extra.To = "s1", "bob"
		for _, h := range append(wrong, extra) {
			for _, n := range []int{0, -1} { // whatever else is wrong
				h.Count = n
				b := newBoxes(t)
				b.gives(api.ErrForm, h)
				b.gives(api.OK, pack("b", "ann", 0, "s1"))
				b.gives(api.ErrForm, h)
			}
		}
	}
	for _, do := range []int{least, -1, 0, 6, 257, 1<<32 + 1, most} {
		b := newBoxes(t)
		b.gives(api.OK, pack("b", "ann", 0, "s1"))
		for _, h := range []api.Hand{{}, pack("c", "ann", 0, "s2"), give("b", "ann", "bob"), open("b", "ann", 0, "s1"), open("b", "ann", -1, "s1")} {
			h.Do = do
			b.gives(api.ErrForm, h)
		}
	}
}

// The longest words, and all that they may be made of.
func TestU6Words(t *testing.T) {
	b := newBoxes(t)
	long := strings.Repeat("~", 32)
	b.gives(api.OK, pack(long, long, 1, long))
	b.gives(api.OK, give(long, long, long+""))
	b.gives(api.OK, take(long, long, long))
	b.gives(api.OK, open(long, long, 1, long))
	for i := range 256 {
		s := "s" + string([]byte{byte(i)})
		want := api.ErrForm
		if i > 32 && i < 127 {
			want = api.OK
		}
		b.gives(want, pack(s, "ann", 1, "1"+s))
		b.gives(want, give(s, "ann", s))
		b.gives(want, take(s, s, "1"+s))
	}
}

func TestU6Range(t *testing.T) {
	for _, n := range []int{least, -1, 0, 1, 1 << 20, 1<<20 + 1, 1<<32 + 1, most} {
		b := newBoxes(t)
		counted, elsewhere := api.OK, api.OK
		if n < 0 || n > 1<<20 {
			counted = api.ErrRange
		}
		if n != 0 {
			elsewhere = api.ErrRange
		}
		b.gives(counted, pack("b", "ann", n, "s1"))
		b.gives(api.OK, pack("c", "ann", 7, "s2"))
		h := give("c", "ann", "bob")
		h.Count = n
		b.gives(elsewhere, h)
		if n != 0 {
			b.gives(api.OK, give("c", "ann", "bob"))
		}
		h = take("c", "bob", "s2")
		h.Count = n
		b.gives(elsewhere, h)
		if n != 0 {
			b.gives(api.OK, take("c", "bob", "s2"))
		}
		if counted == api.OK {
			b.gives(api.ErrProof, open("c", "bob", n, "s2"))
		} else {
			b.gives(api.ErrRange, open("c", "bob", n, "s2"))
			b.gives(api.ErrRange, open("none", "bob", n, "s2")) // ahead of all that the boxes tell
			b.gives(api.ErrRange, pack("c", "ann", n, "s2"))
		}
		b.gives(api.OK, open("c", "bob", 7, "s2"))
		b.gives(counted, shut("c", "bob", n, "s3"))
	}
}

func TestU6Pack(t *testing.T) {
	b := newBoxes(t)
	b.gives(api.OK, pack("b", "ann", 1, "s1"))
	b.gives(api.ErrTwice, pack("b", "ann", 1, "s2"))
	b.gives(api.ErrTwice, pack("b", "bob", 2, "s1"))
	b.gives(api.ErrTwice, pack("c", "bob", 2, "s1"))
	b.gives(api.OK, pack("B", "bob", 2, "S1"))
	b.gives(api.OK, pack("s1", "s1", 2, "b")) // names and seals do not know of one another
	b.gives(api.OK, open("b", "ann", 1, "s1"))
	b.gives(api.ErrTwice, pack("c", "bob", 2, "s1")) // it had it once
	b.gives(api.OK, pack("c", "bob", 2, "s2"))       // a seal of what was refused is as good as new
}

func TestU6Full(t *testing.T) {
	b := newBoxes(t)
	for i := range 256 {
		b.gives(api.OK, pack(fmt.Sprint("box", i), "ann", i, fmt.Sprint("seal", i)))
	}
	b.gives(api.ErrFull, pack("more", "ann", 1, "new"))
	b.gives(api.ErrFull, pack("more", "ann", 1, "seal7")) // ahead of the seal
	b.gives(api.ErrTwice, pack("box7", "ann", 1, "new"))
	b.gives(api.OK, open("box7", "ann", 7, "seal7"))
	b.gives(api.ErrFull, pack("more", "ann", 1, "new"))
	b.gives(api.OK, shut("box7", "ann", 7, "new"))
	b.gives(api.ErrTwice, pack("box255", "ann", 255, "new"))
}

func TestU6Others(t *testing.T) {
	b := newBoxes(t)
	for _, h := range []api.Hand{give("b", "ann", "bob"), take("b", "ann", "s1"), open("b", "ann", 5, "s1"), shut("b", "ann", 5, "s2")} {
		b.gives(api.ErrNone, h)
	}
	b.gives(api.OK, pack("b", "ann", 5, "s1"))
	b.gives(api.OK, pack("c", "eve", 6, "s9"))
	// It is held.
	b.gives(api.ErrState, take("b", "ann", "s1"))
	b.gives(api.ErrState, take("b", "bob", "s0"))
	b.gives(api.ErrState, shut("b", "bob", 5, "s1"))
	b.gives(api.ErrRight, give("b", "bob", "ann"))
	b.gives(api.ErrRight, open("b", "bob", 4, "s0"))
	b.gives(api.ErrProof, open("b", "ann", 5, "s9"))
	b.gives(api.ErrProof, open("b", "ann", 4, "s1"))
	b.gives(api.OK, give("b", "ann", "bob"))
	// It is under way.
	b.gives(api.ErrState, give("b", "ann", "bob"))
	b.gives(api.ErrState, give("b", "cat", "bob"))
	b.gives(api.ErrState, open("b", "ann", 5, "s1"))
	b.gives(api.ErrState, shut("b", "ann", 5, "s2"))
	b.gives(api.ErrRight, take("b", "ann", "s1"))
	b.gives(api.ErrRight, take("b", "cat", "s0"))
	b.gives(api.ErrProof, take("b", "bob", "s9"))
	b.gives(api.OK, take("b", "bob", "s1"))
	b.gives(api.ErrRight, open("b", "ann", 5, "s1"))
	b.gives(api.OK, open("b", "bob", 5, "s1"))
	// It is open.
	b.gives(api.ErrState, give("b", "bob", "ann"))
	b.gives(api.ErrState, give("b", "eve", "ann"))
	b.gives(api.ErrState, take("b", "bob", "s1"))
	b.gives(api.ErrState, open("b", "bob", 5, "s1"))
	b.gives(api.ErrRight, shut("b", "ann", 5, "s9"))
	b.gives(api.ErrTwice, shut("b", "bob", 5, "s1"))
	b.gives(api.ErrTwice, shut("b", "bob", 5, "s9"))
	b.gives(api.OK, shut("b", "bob", 8, "s2"))
	b.gives(api.ErrState, shut("b", "bob", 8, "s3"))
	b.gives(api.ErrProof, open("b", "bob", 8, "s1"))
	b.gives(api.ErrProof, open("b", "bob", 5, "s2"))
	b.gives(api.OK, open("b", "bob", 8, "s2"))
}

// anyHand is something that may be right, or nearly.
func anyHand(d *rand.Rand, model custodyModel) api.Hand {
	names := []string{"a", "b", "c"}
	one := func(l []string) string { return l[d.IntN(len(l))] }
	h := api.Hand{Do: 1 + d.IntN(5), Box: one(names), Who: one(names), Count: d.IntN(3)}
	if h.Do == api.HandGive || h.Do == api.HandTake {
		h.Count = 0
	}
	if h.Do == api.HandGive {
		h.To = one(names)
	} else {
		h.Seal = fmt.Sprint("s", d.IntN(40))
	}
	if d.IntN(2) == 0 && (h.Do == api.HandTake || h.Do == api.HandOpen) { // as it is
		b := model.batch(h.Box)
		h.Seal = b.Seal
		if h.Do == api.HandOpen {
			h.Count = b.Count
		}
	}
	if d.IntN(30) == 0 {
		h.Count = []int{-1, 1, 1<<20 + 1}[d.IntN(3)]
	}
	if d.IntN(30) == 0 {
		h.To = one([]string{"", "a", " "})
	}
	return h
}

func TestU6Random(t *testing.T) {
	d := dice()
	seen := map[api.Errno]int{}
	for range 120 {
		b := newBoxes(t)
		for range 150 {
			h := anyHand(d, b.model)
			want := b.model.handModel(h)
			seen[want]++
			if e := b.c.Hand(h); e != want {
				t.Fatalf("%s behind %s: error %d comes, not %d", short(h), short(b.model.done), e, want)
			}
			b.look()
		}
	}
	for _, e := range []api.Errno{api.OK, api.ErrForm, api.ErrRange, api.ErrTwice, api.ErrNone, api.ErrState, api.ErrRight, api.ErrProof} {
		if seen[e] < 30 {
			t.Errorf("error %d comes %d times", e, seen[e])
		}
	}
}

func TestU6Order(t *testing.T) {
	b := newBoxes(t)
	for i, name := range []string{"b", "a", "B", "ab", "aa", "~", "!", "a!", "10", "9"} {
		b.gives(api.OK, pack(name, "ann", i, fmt.Sprint("seal", i)))
	}
	var names []string
	for batch := range b.c.Boxes() {
		names = append(names, batch.Name)
	}
	if got := strings.Join(names, " "); got != "! 10 9 B a a! aa ab b ~" {
		t.Errorf("the names come as %s", got)
	}
}

// A sequence tells how boxes were when it was asked for, again and again, and stops when it is told to.
func TestE2Boxes(t *testing.T) {
	b := newBoxes(t)
	for i := range 7 {
		b.gives(api.OK, pack(fmt.Sprint("box", 9-i), "ann", i, fmt.Sprint("seal", i)))
	}
	want := b.model.batches()
	all := b.c.Boxes()
	for most := 1; most <= len(want); most++ {
		var got []api.Batch
		no := false
		all(func(batch api.Batch) bool {
			if no {
				t.Error("something is told behind a no")
			}
			got = append(got, batch)
			no = len(got) == most
			return !no
		})
		if !slices.Equal(got, want[:most]) {
			t.Errorf("%s are told, not %s", short(got), short(want[:most]))
		}
	}
	pairs := 0
	for range all {
		for range all {
			pairs++
		}
	}
	if pairs != 49 {
		t.Errorf("%d pairs are told", pairs)
	}
	for batch := range all {
		b.gives(api.OK, open(batch.Name, "ann", batch.Count, batch.Seal))
	}
	if got := slices.Collect(all); !slices.Equal(got, want) {
		t.Errorf("the sequence has changed: %s", short(got))
	}
}

// Custodies do not know of one another.
func TestE1Several(t *testing.T) {
	a, b := newBoxes(t), newBoxes(t)
	for i := range 4 {
		a.gives(api.OK, pack(fmt.Sprint("box", i), "ann", i, fmt.Sprint("seal", i)))
		b.look()
	}
	for i := range 4 {
		b.gives(api.OK, pack(fmt.Sprint("box", i), "bob", 9, fmt.Sprint("seal", 3-i)))
		a.look()
	}
}

// Whatever comes, there is an answer.
func TestE1Hand(t *testing.T) {
	b := newBoxes(t)
	long := strings.Repeat("w", 1<<20)
	for _, h := range []api.Hand{{}, {Do: least, Count: least}, {Do: most, Count: most, Box: long, Who: long, To: long, Seal: long},
		pack(long, "ann", 1, "s"), pack("b", long, 1, "s"), pack("b", "ann", 1, long), give("b", "ann", long)} {
		b.gives(api.ErrForm, h)
	}
}
