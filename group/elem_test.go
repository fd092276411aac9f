package group_test

import (
	"math"
	"math/big"
	"slices"
	"testing"

	"hustings/api"
	"hustings/fold"
	"hustings/group"
)

// multiplied checks the product of two elements.
func multiplied(t *testing.T, r ring, a, b string) {
	t.Helper()
	got, e := group.Times(r.kind, a, b)
	same(t, "Times", got, e, r.elem(new(big.Int).Mul(number(a), number(b))))
}

func TestG4Times(t *testing.T) {
	each(t, func(t *testing.T, r ring) {
		edges := append(r.edges(), r.text(r.order))
		for _, a := range edges {
			for _, b := range edges {
				multiplied(t, r, a, b)
			}
		}
		d := dice()
		for range 5000 {
			multiplied(t, r, r.any(d), r.any(d))
		}
	})
	tiny := rings()[0]
	for a := range int64(641) {
		for b := a % 5; b < 641; b += 5 {
			multiplied(t, tiny, tiny.small(a+1), tiny.small(b+1))
		}
	}
	// The document's examples.
	got, e := group.Times(api.Tiny, tiny.small(5), tiny.small(639))
	same(t, "5 and 639", got, e, tiny.small(629))
	got, e = group.Times(api.Tiny, tiny.small(5), tiny.small(200))
	same(t, "5 and 200", got, e, tiny.small(283))
}

func TestG4Under(t *testing.T) {
	check := func(t *testing.T, r ring, a string) {
		t.Helper()
		got, e := group.Under(r.kind, a)
		same(t, "Under", got, e, r.elem(new(big.Int).ModInverse(number(a), r.prime)))
		one, e := group.Times(r.kind, a, got)
		same(t, "Times of both", one, e, r.small(1))
	}
	each(t, func(t *testing.T, r ring) {
		for _, a := range append(r.edges(), r.text(r.order)) {
			check(t, r, a)
		}
		d := dice()
		for range 300 {
			check(t, r, r.any(d))
		}
	})
	tiny := rings()[0]
	for a := range int64(641) {
		check(t, tiny, tiny.small(a+1))
	}
}

func TestG4Power(t *testing.T) {
	check := func(t *testing.T, r ring, a, n string) {
		t.Helper()
		got, e := group.Power(r.kind, a, n)
		same(t, "Power", got, e, r.elem(r.power(a, n)))
	}
	each(t, func(t *testing.T, r ring) {
		scalars := append(r.edges(), r.small(0))
		for _, n := range []int64{4, 5, 15, 16, 18, 31, 32, 33, 128, 255, 256, 257, 511, 512, 640} {
			scalars = append(scalars, r.small(n))
		}
		for k := range r.order.BitLen() - 1 {
			n := new(big.Int).Lsh(big.NewInt(1), uint(k))
			scalars = append(scalars, r.text(n), r.text(new(big.Int).Add(n, big.NewInt(1))))
		}
		d := dice()
		for _, a := range append(r.edges(), r.text(r.order), r.any(d)) {
			for _, n := range scalars {
				check(t, r, a, n)
			}
		}
		for range 500 {
			check(t, r, r.any(d), r.any(d))
		}
	})
	tiny := rings()[0]
	for a := range int64(641) {
		for n := a % 7; n < 641; n += 7 {
			check(t, tiny, tiny.small(a+1), tiny.small(n))
		}
	}
}

// TestG4Base: each element is one power of the base.
func TestG4Base(t *testing.T) {
	tiny := rings()[0]
	seen := map[string]bool{}
	for n := range int64(641) {
		a, e := group.Power(api.Tiny, tiny.small(2), tiny.small(n))
		if e != api.OK || !group.Member(api.Tiny, a) {
			t.Errorf("2 to the %d: %x, error %d", n, a, e)
		}
		seen[a] = true
	}
	if len(seen) != 641 {
		t.Errorf("%d powers", len(seen))
	}
}

func TestG4Wrong(t *testing.T) {
	each(t, func(t *testing.T, r ring) {
		good := r.small(2)
		for _, none := range r.noElems() {
			for _, other := range []string{good, r.text(r.order), none, r.below(-1)} {
				got, e := group.Times(r.kind, none, other)
				fails(t, "Times, the first is none", got, e, api.ErrElem)
				got, e = group.Times(r.kind, other, none)
				fails(t, "Times, the second is none", got, e, api.ErrElem)
				got, e = group.Power(r.kind, none, other)
				fails(t, "Power of none", got, e, api.ErrElem)
			}
			got, e := group.Under(r.kind, none)
			fails(t, "Under", got, e, api.ErrElem)
		}
		for _, none := range r.noScalars() {
			for _, a := range []string{good, r.text(r.order)} {
				got, e := group.Power(r.kind, a, none)
				fails(t, "Power by none", got, e, api.ErrScalar)
			}
		}
	})
}

func TestG5Product(t *testing.T) {
	each(t, func(t *testing.T, r ring) {
		d := dice()
		for _, count := range []int{0, 1, 2, 3, 4, 7, 16, 64, 255, 256} {
			var a, n []string
			want := big.NewInt(1)
			for i := range count {
				a = append(a, r.any(d))
				switch (i + count) % 5 {
				case 0:
					n = append(n, r.small(int64(d.IntN(641))))
				case 1:
					n = append(n, r.small(int64(d.IntN(3))))
				default:
					n = append(n, r.any(d))
				}
				want.Mul(want, r.power(a[i], n[i])).Mod(want, r.prime)
			}
			got, e := group.Product(r.kind, a, n)
			same(t, "Product", got, e, r.elem(want))
		}
		for _, none := range [][]string{nil, {}} {
			got, e := group.Product(r.kind, none, []string{})
			same(t, "Product of none", got, e, r.small(1))
		}
		got, e := group.Product(r.kind, []string{r.small(3), r.below(0)}, []string{r.small(0), r.small(0)})
		same(t, "Product of powers by 0", got, e, r.small(1))
	})
}

func TestG5Wrong(t *testing.T) {
	list := func(count int, s string) []string { return slices.Repeat([]string{s}, count) }
	each(t, func(t *testing.T, r ring) {
		good, bad := r.small(1), "x"
		fail := func(what string, a, n []string, want api.Errno) {
			t.Helper()
			got, e := group.Product(r.kind, a, n)
			fails(t, what, got, e, want)
		}
		fail("both too long", list(257, good), list(257, good), api.ErrLong)
		fail("a too long", list(257, good), list(256, good), api.ErrLong)
		fail("n too long", list(256, good), list(257, good), api.ErrLong)
		fail("a too long, n of none", list(257, bad), nil, api.ErrLong)
		fail("n too long, a of none", nil, list(1000, bad), api.ErrLong)
		fail("one more", list(256, bad), list(255, bad), api.ErrForm)
		fail("one less", list(255, good), list(256, good), api.ErrForm)
		fail("no n", list(1, bad), nil, api.ErrForm)
		fail("no a", nil, list(1, bad), api.ErrForm)
		for _, at := range []int{0, 1, 100, 255} {
			a, n := list(256, good), list(256, good)
			n[at] = r.below(0)
			fail("no scalar", a, n, api.ErrScalar)
			a[at] = r.small(0)
			fail("neither", a, n, api.ErrElem)
			n[at] = good
			fail("no element", a, n, api.ErrElem)
		}
		fail("a scalar first", []string{good, bad}, []string{bad, good}, api.ErrScalar)
		fail("an element first", []string{bad, good}, []string{good, bad}, api.ErrElem)
		for _, none := range r.noElems() {
			fail("no element", []string{good, none}, []string{good, bad}, api.ErrElem)
		}
		for _, none := range r.noScalars() {
			fail("no scalar", []string{good, good, bad}, []string{good, none, bad}, api.ErrScalar)
		}
	})
}

// TestG5Reads: neither the lists nor what is behind them is changed.
func TestG5Reads(t *testing.T) {
	r := rings()[2]
	a, n := append(r.edges(), "spare"), append(r.edges(), "room")
	b, m := slices.Clone(a), slices.Clone(n)
	last := len(a) - 1
	if _, e := group.Product(r.kind, a[:last], n[:last]); e != api.OK {
		t.Errorf("error %d", e)
	}
	if !slices.Equal(a, b) || !slices.Equal(n, m) {
		t.Error("a list was changed")
	}
}

func TestG6Log(t *testing.T) {
	const far = 1 << 20
	each(t, func(t *testing.T, r ring) {
		d := dice()
		numbers := append(upTo(70), 640, 1023, 1024, 1025, 1026, far-1025, far-1, far)
		for range 100 {
			numbers = append(numbers, d.IntN(far+1)>>d.IntN(20))
		}
		for _, n := range numbers {
			if r.kind == api.Tiny {
				n %= 641
			}
			a := r.elem(new(big.Int).Exp(big.NewInt(2), big.NewInt(int64(n)), r.prime))
			for _, most := range []int{n, min(n+1, far), n + d.IntN(far-n+1), far} {
				got, e := group.Log(r.kind, a, most)
				same(t, "Log", got, e, n)
			}
			if n > 0 {
				got, e := group.Log(r.kind, a, n-1)
				fails(t, "Log, one too few", got, e, api.ErrNone)
				got, e = group.Log(r.kind, a, d.IntN(n))
				fails(t, "Log, too few", got, e, api.ErrNone)
			}
		}
	})
	for _, r := range rings()[1:] {
		for n, a := range []string{r.below(0), r.below(5), r.elem(r.power(r.small(2), r.small(far+1))), r.elem(r.power(r.small(2), r.below(1)))} {
			got, e := group.Log(r.kind, a, far)
			fails(t, "Log of the element "+string(rune('0'+n)), got, e, api.ErrNone)
		}
	}
}

// TestG6Tiny: of the kind that comes round soon the least number is told.
func TestG6Tiny(t *testing.T) {
	r := rings()[0]
	a := big.NewInt(1)
	for n := range 641 {
		for _, most := range []int{n, 640, 641, 642, 1281, 1282, 5000, 1 << 20} {
			got, e := group.Log(r.kind, r.elem(a), most)
			same(t, "Log", got, e, n)
		}
		for most := n - 1; most >= 0; most -= 1 + n/7 {
			got, e := group.Log(r.kind, r.elem(a), most)
			fails(t, "Log, too few", got, e, api.ErrNone)
		}
		a.Lsh(a, 1).Mod(a, r.prime)
	}
}

func TestG6Wrong(t *testing.T) {
	each(t, func(t *testing.T, r ring) {
		for _, most := range []int{-1, -2, 1<<20 + 1, 1 << 32, math.MinInt, math.MaxInt} {
			got, e := group.Log(r.kind, r.small(1), most)
			fails(t, "Log", got, e, api.ErrRange)
		}
		for _, none := range r.noElems() {
			for _, most := range []int{-1, 0, 1 << 20, 1<<20 + 1} {
				got, e := group.Log(r.kind, none, most)
				fails(t, "Log", got, e, api.ErrElem)
			}
		}
	})
}

func TestG7Challenge(t *testing.T) {
	each(t, func(t *testing.T, r ring) {
		talk := fold.NewTalk("an election")
		for _, label := range []string{"", "challenge", "nonce", "challenge", string(make([]byte, 100))} {
			talk.Say("more", label)
			other := talk.Fork()
			got, e := group.Challenge(r.kind, talk, label)
			first := other.Ask(label)
			second := other.Ask(label)
			same(t, "Challenge", got, e, r.scalar(number(first+second)))
			same(t, "what is asked next", talk.Fork().Ask("next"), api.OK, other.Ask("next"))
		}
	})
}

// TestG7NoKind: where there is no such kind, nothing is asked.
func TestG7NoKind(t *testing.T) {
	for _, kind := range []int{-1, 0, 4} {
		talk := fold.NewTalk("an election")
		other := talk.Fork()
		got, e := group.Challenge(kind, talk, "challenge")
		fails(t, "Challenge", got, e, api.ErrKind)
		same(t, "what is asked next", talk.Ask("challenge"), api.OK, other.Ask("challenge"))
	}
}
