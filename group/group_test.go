package group_test

import (
	"math"
	"math/big"
	"strings"
	"testing"

	"hustings/api"
	"hustings/fold"
	"hustings/group"
)

func TestG1Tells(t *testing.T) {
	each(t, func(t *testing.T, r ring) {
		if !r.order.ProbablyPrime(20) || !r.prime.ProbablyPrime(20) {
			t.Error("the table does not tell primes")
		}
		scalar, elem, e := group.Sizes(r.kind)
		same(t, "Sizes", [2]int{scalar, elem}, e, [2]int{r.size, r.size})
		s, e := group.Order(r.kind)
		same(t, "Order", s, e, r.text(r.order))
		s, e = group.Prime(r.kind)
		same(t, "Prime", s, e, r.text(r.prime))
		s, e = group.Base(r.kind)
		same(t, "Base", s, e, r.small(2))
	})
}

func TestG1ScalarMember(t *testing.T) {
	is := func(t *testing.T, what string, s string, got, want bool) {
		t.Helper()
		if got != want {
			t.Errorf("%s of %x: %t comes", what, s, got)
		}
	}
	each(t, func(t *testing.T, r ring) {
		for _, s := range r.edges() {
			is(t, "Scalar", s, group.Scalar(r.kind, s), true)
			is(t, "Member", s, group.Member(r.kind, s), true)
		}
		for _, s := range r.noScalars() {
			is(t, "Scalar", s, group.Scalar(r.kind, s), false)
		}
		for _, s := range r.noElems() {
			is(t, "Member", s, group.Member(r.kind, s), false)
		}
		is(t, "Scalar", "0", group.Scalar(r.kind, r.small(0)), true)
		is(t, "Member", "ORDER", group.Member(r.kind, r.text(r.order)), true)
	})
	for n := range 1 << 16 {
		s := string([]byte{byte(n >> 8), byte(n)})
		is(t, "Scalar", s, group.Scalar(api.Tiny, s), n < 641)
		is(t, "Member", s, group.Member(api.Tiny, s), n >= 1 && n <= 641)
	}
}

// TestG1Kind: that there is no such kind is told ahead of all else that is wrong.
func TestG1Kind(t *testing.T) {
	for _, kind := range []int{0, 4, -1, -2, -3, 5, 100, 257, 1<<32 + 1, math.MinInt, math.MinInt + 1, math.MaxInt} {
		for _, s := range []string{"", "\x00\x02", "\x00\x00\x00\x00\x00\x00\x00\x02", strings.Repeat("x", 2000)} {
			noKind(t, kind, s)
		}
		many := make([]string, 300)
		p, e := group.Product(kind, many, nil)
		fails(t, "Product", p, e, api.ErrKind)
	}
}

func noKind(t *testing.T, kind int, s string) {
	scalar, elem, e := group.Sizes(kind)
	fails(t, "Sizes", [2]int{scalar, elem}, e, api.ErrKind)
	if group.Scalar(kind, s) || group.Member(kind, s) {
		t.Errorf("%x is something of the kind %d", s, kind)
	}
	text := func(what string) func(got string, e api.Errno) {
		return func(got string, e api.Errno) { fails(t, what, got, e, api.ErrKind) }
	}
	text("Order")(group.Order(kind))
	text("Prime")(group.Prime(kind))
	text("Base")(group.Base(kind))
	text("Number")(group.Number(kind, len(s)-2))
	text("Reduce")(group.Reduce(kind, s))
	text("Add")(group.Add(kind, s, s))
	text("Sub")(group.Sub(kind, s, s))
	text("Mul")(group.Mul(kind, s, s))
	text("Inv")(group.Inv(kind, s))
	text("Times")(group.Times(kind, s, s))
	text("Under")(group.Under(kind, s))
	text("Power")(group.Power(kind, s, s))
	text("Product")(group.Product(kind, []string{s}, []string{s}))
	text("Challenge")(group.Challenge(kind, fold.NewTalk(s), s))
	for _, most := range []int{-1, 0, 1 << 20, 1<<20 + 1} {
		n, e := group.Log(kind, s, most)
		fails(t, "Log", n, e, api.ErrKind)
	}
}

func TestG2Number(t *testing.T) {
	each(t, func(t *testing.T, r ring) {
		numbers := []int{0, 1, -1, 2, -2, 640, 641, 642, -640, -641, -642, 1282, -1282, 1283, math.MaxInt, math.MinInt, math.MinInt + 1, 1<<62 - 1, -1 << 62}
		order := int(number("\x08\x00\x04\x41\x80\x00\x00\x01").Int64())
		for k := -16; k <= 15; k++ {
			numbers = append(numbers, k*order-1, k*order, k*order+1)
		}
		d := dice()
		for range 2000 {
			numbers = append(numbers, int(d.Uint64()), int(d.Uint64())>>d.IntN(64))
		}
		for _, n := range numbers {
			got, e := group.Number(r.kind, n)
			same(t, "Number", got, e, r.scalar(big.NewInt(int64(n))))
		}
	})
}

func TestG2Reduce(t *testing.T) {
	each(t, func(t *testing.T, r ring) {
		check := func(b string) {
			t.Helper()
			got, e := group.Reduce(r.kind, b)
			same(t, "Reduce", got, e, r.scalar(number(b)))
		}
		d := dice()
		for _, length := range append(upTo(140), 255, 256, 257, 512, 1000, 1015, 1016, 1017, 1022, 1023, 1024) {
			check(strings.Repeat("\x00", length))
			check(strings.Repeat("\xff", length))
			b := make([]byte, length)
			for i := range b {
				b[i] = byte(d.IntN(256))
			}
			check(string(b))
		}
		for _, times := range []string{r.small(1), r.small(2), r.text(r.prime), strings.Repeat("\xff", 40)} {
			n := new(big.Int).Mul(r.order, number(times))
			for _, more := range []int64{-1, 0, 1} {
				b := string(new(big.Int).Add(n, big.NewInt(more)).Bytes())
				check(b)
				check("\x00" + b)
				check(strings.Repeat("\x00", 1024-len(b)) + b)
			}
		}
		for _, length := range []int{1025, 1026, 2048, 1 << 20} {
			got, e := group.Reduce(r.kind, strings.Repeat("\x00", length))
			fails(t, "Reduce", got, e, api.ErrLong)
		}
	})
}

// upTo is the numbers from 0 to most.
func upTo(most int) []int {
	var out []int
	for n := range most + 1 {
		out = append(out, n)
	}
	return out
}

// reckoned checks what comes of two scalars.
func reckoned(t *testing.T, r ring, a, b string) {
	t.Helper()
	x, y := number(a), number(b)
	got, e := group.Add(r.kind, a, b)
	same(t, "Add", got, e, r.scalar(new(big.Int).Add(x, y)))
	got, e = group.Sub(r.kind, a, b)
	same(t, "Sub", got, e, r.scalar(new(big.Int).Sub(x, y)))
	got, e = group.Mul(r.kind, a, b)
	same(t, "Mul", got, e, r.scalar(new(big.Int).Mul(x, y)))
}

func TestG3AddSubMul(t *testing.T) {
	each(t, func(t *testing.T, r ring) {
		edges := append(r.edges(), r.small(0))
		for _, a := range edges {
			for _, b := range edges {
				reckoned(t, r, a, b)
			}
		}
		d := dice()
		for range 5000 {
			reckoned(t, r, r.any(d), r.any(d))
		}
	})
	tiny := rings()[0]
	for a := range int64(641) {
		for b := a % 5; b < 641; b += 5 {
			reckoned(t, tiny, tiny.small(a), tiny.small(b))
		}
	}
}

func TestG3Inv(t *testing.T) {
	check := func(t *testing.T, r ring, a string) {
		t.Helper()
		got, e := group.Inv(r.kind, a)
		same(t, "Inv", got, e, r.text(new(big.Int).ModInverse(number(a), r.order)))
	}
	each(t, func(t *testing.T, r ring) {
		for _, a := range r.edges() {
			check(t, r, a)
		}
		d := dice()
		for range 300 {
			check(t, r, r.any(d))
		}
		got, e := group.Inv(r.kind, r.small(0))
		fails(t, "Inv of 0", got, e, api.ErrZero)
		for _, a := range r.noScalars() {
			got, e := group.Inv(r.kind, a)
			fails(t, "Inv", got, e, api.ErrScalar)
		}
	})
	tiny := rings()[0]
	for a := range int64(640) {
		check(t, tiny, tiny.small(a+1))
	}
}

func TestG3Wrong(t *testing.T) {
	calls := []func(kind int, a, b string) (string, api.Errno){group.Add, group.Sub, group.Mul}
	each(t, func(t *testing.T, r ring) {
		for _, call := range calls {
			for _, none := range r.noScalars() {
				for _, other := range []string{r.small(0), r.small(1), r.below(1), none} {
					got, e := call(r.kind, none, other)
					fails(t, "the first is none", got, e, api.ErrScalar)
					got, e = call(r.kind, other, none)
					fails(t, "the second is none", got, e, api.ErrScalar)
				}
			}
		}
	})
}
