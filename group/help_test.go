package group_test

import (
	"math/big"
	"math/rand/v2"
	"strings"
	"testing"

	"hustings/api"
)

// ring is what the document's table says of a kind, and what is reckoned with it by math/big.
type ring struct {
	kind, size   int
	order, prime *big.Int
}

// rings are all three kinds.
func rings() []ring {
	h := new(big.Int).Lsh(big.NewInt(1), 125)
	h.Add(h, big.NewInt(9087))
	return []ring{
		newRing(api.Tiny, big.NewInt(5), 7, 2),
		newRing(api.Short, big.NewInt(268437635), 31, 8),
		newRing(api.Full, h, 127, 32),
	}
}

func newRing(kind int, h *big.Int, k uint, size int) ring {
	order := new(big.Int).Lsh(h, k)
	order.Add(order, big.NewInt(1))
	prime := new(big.Int).Lsh(order, 1)
	prime.Add(prime, big.NewInt(1))
	return ring{kind, size, order, prime}
}

// text is a number in as many bytes as the kind has.
func (r ring) text(n *big.Int) string { return string(n.FillBytes(make([]byte, r.size))) }

// scalar is a number modulo ORDER, in bytes.
func (r ring) scalar(n *big.Int) string { return r.text(new(big.Int).Mod(n, r.order)) }

// elem is a number modulo PRIME, or what is missing of it to PRIME, in bytes.
func (r ring) elem(n *big.Int) string {
	c := new(big.Int).Mod(n, r.prime)
	if c.Cmp(r.order) > 0 {
		c.Sub(r.prime, c)
	}
	return r.text(c)
}

// power is the power of one element by a scalar, as a number modulo PRIME.
func (r ring) power(a, n string) *big.Int { return new(big.Int).Exp(number(a), number(n), r.prime) }

// below is ORDER less n, in bytes.
func (r ring) below(n int64) string { return r.text(new(big.Int).Sub(r.order, big.NewInt(n))) }

// small is a small number in bytes.
func (r ring) small(n int64) string { return r.text(big.NewInt(n)) }

// edges are numbers near the ends of what scalars and elements may be: all of them are both.
func (r ring) edges() []string {
	half := new(big.Int).Rsh(r.order, 1)
	return []string{
		r.small(1), r.small(2), r.small(3), r.small(17), r.below(1), r.below(2), r.below(3),
		r.text(half), r.text(new(big.Int).Add(half, big.NewInt(1))),
	}
}

// any is bytes that are a scalar and an element. Words of zeros and of ones stand in it far more often than by chance,
// for there carrying goes wrong.
func (r ring) any(dice *rand.Rand) string {
	var b strings.Builder
	for b.Len() < r.size {
		switch dice.IntN(4) {
		case 0:
			b.WriteString("\x00\x00\x00\x00\x00\x00\x00\x00")
		case 1:
			b.WriteString("\xff\xff\xff\xff\xff\xff\xff\xff")
		default:
			for range 8 {
				b.WriteByte(byte(dice.IntN(256)))
			}
		}
	}
	n := new(big.Int).Mod(number(b.String()[:r.size]), r.order)
	if n.Sign() == 0 {
		n.SetInt64(1)
	}
	return r.text(n)
}

// wrongLength are texts with another number of bytes than the kind has.
func (r ring) wrongLength() []string {
	return []string{
		"", "\x01", strings.Repeat("\x00", r.size-1), strings.Repeat("\x00", r.size-2) + "\x01",
		strings.Repeat("\x00", r.size) + "\x01", r.small(1) + "\x00", strings.Repeat("\x01", 4*r.size), strings.Repeat("\x00", 4000) + "\x01",
	}
}

// noScalars are texts that are none.
func (r ring) noScalars() []string {
	return append(r.wrongLength(), r.below(0), r.below(-1), r.text(r.prime), strings.Repeat("\xff", r.size), "\x80"+strings.Repeat("\x00", r.size-1))
}

// noElems are texts that are none.
func (r ring) noElems() []string {
	return append(r.wrongLength(), r.small(0), r.below(-1), r.text(r.prime), strings.Repeat("\xff", r.size), "\x80"+strings.Repeat("\x00", r.size-1))
}

// number is bytes as a number.
func number(b string) *big.Int { return new(big.Int).SetBytes([]byte(b)) }

// dice is a row of numbers that is the same each time.
func dice() *rand.Rand { return rand.New(rand.NewPCG(3, 7)) }

// each runs a test for each kind.
func each(t *testing.T, do func(t *testing.T, r ring)) {
	for i, name := range []string{"Tiny", "Short", "Full"} {
		t.Run(name, func(t *testing.T) { do(t, rings()[i]) })
	}
}

// same tells where something else comes than should.
func same[T comparable](t *testing.T, what string, got T, e api.Errno, want T) {
	t.Helper()
	if got != want || e != api.OK {
		t.Errorf("%s: %#v comes, error %d, not %#v", what, got, e, want)
	}
}

// fails tells where an error is another one, or something comes beside it.
func fails[T comparable](t *testing.T, what string, got T, e api.Errno, want api.Errno) {
	t.Helper()
	var none T
	if got != none || e != want {
		t.Errorf("%s: %#v comes, error %d, not error %d", what, got, e, want)
	}
}
