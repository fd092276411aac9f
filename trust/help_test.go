package trust_test

import (
	"math/big"
	"math/rand/v2"
	"reflect"
	"strings"
	"testing"

	"hustings/api"
)

// ring is what the document's table says of a kind, and what is reckoned with it by math/big.
type ring struct {
	kind, size   int
	order, prime *big.Int
}

// rings are all three kinds.
func rings() []ring {
	h := new(big.Int).Lsh(big.NewInt(1), 125)
	h.Add(h, big.NewInt(9087))
	return []ring{
		newRing(api.Tiny, big.NewInt(5), 7, 2),
		newRing(api.Short, big.NewInt(268437635), 31, 8),
		newRing(api.Full, h, 127, 32),
	}
}

func newRing(kind int, h *big.Int, k uint, size int) ring {
	order := new(big.Int).Lsh(h, k)
	order.Add(order, big.NewInt(1))
	prime := new(big.Int).Lsh(order, 1)
	prime.Add(prime, big.NewInt(1))
	return ring{kind, size, order, prime}
}

// text is a number in as many bytes as the kind has.
func (r ring) text(n *big.Int) string { return string(n.FillBytes(make([]byte, r.size))) }

// small is a small number in bytes.
func (r ring) small(n int64) string { return r.text(big.NewInt(n)) }

// scalar is a number modulo ORDER, in bytes.
func (r ring) scalar(n *big.Int) string { return r.text(new(big.Int).Mod(n, r.order)) }

func (r ring) add(a, b string) string { return r.scalar(new(big.Int).Add(number(a), number(b))) }

func (r ring) mul(a, b string) string { return r.scalar(new(big.Int).Mul(number(a), number(b))) }

// elem is a number modulo PRIME, or what is missing of it, in bytes.
func (r ring) elem(c *big.Int) string {
	c = new(big.Int).Mod(c, r.prime)
	if c.Cmp(r.order) > 0 {
		c.Sub(r.prime, c)
	}
	return r.text(c)
}

func (r ring) times(a, b string) string { return r.elem(new(big.Int).Mul(number(a), number(b))) }

func (r ring) power(a string, n *big.Int) string {
	return r.elem(new(big.Int).Exp(number(a), new(big.Int).Mod(n, r.order), r.prime))
}

// raised is BASE to a scalar.
func (r ring) raised(n string) string { return r.power(r.small(2), number(n)) }

// any is a scalar that is an element too.
func (r ring) any(dice *rand.Rand) string {
	b := make([]byte, r.size+8)
	for i := range b {
		b[i] = byte(dice.IntN(256))
	}
	n := new(big.Int).Mod(number(string(b)), new(big.Int).Sub(r.order, big.NewInt(1)))
	return r.text(n.Add(n, big.NewInt(1)))
}

// anyOf are so many of them.
func (r ring) anyOf(dice *rand.Rand, n int) []string {
	out := make([]string, n)
	for i := range out {
		out[i] = r.any(dice)
	}
	return out
}

// noScalars are texts that are none.
func (r ring) noScalars() []string {
	return []string{
		"", "\x01", r.text(r.order), r.text(r.prime), strings.Repeat("\xff", r.size), r.small(1) + "\x00", "\x00" + r.small(1),
		r.small(1)[1:], strings.Repeat("\x00", r.size-1), strings.Repeat("\x00", 4000),
	}
}

// noElems are texts that are none.
func (r ring) noElems() []string {
	return []string{
		"", "\x01", r.small(0), r.text(new(big.Int).Add(r.order, big.NewInt(1))), r.text(r.prime), strings.Repeat("\xff", r.size),
		r.small(1) + "\x00", "\x00" + r.small(1), r.small(1)[1:], strings.Repeat("\x01", 4000),
	}
}

// number is bytes as a number.
func number(b string) *big.Int { return new(big.Int).SetBytes([]byte(b)) }

// dice is a row of numbers that is the same each time.
func dice() *rand.Rand { return rand.New(rand.NewPCG(6, 13)) }

// kinds runs a test for each kind.
func kinds(t *testing.T, do func(t *testing.T, r ring)) {
	for i, name := range []string{"Tiny", "Short", "Full"} {
		t.Run(name, func(t *testing.T) { do(t, rings()[i]) })
	}
}

// Numbers that are no kinds, no places, and not those of trustees.
func noKinds() []int { return []int{0, -1, 4, 9, 257, 258, 259, -1 << 63, 1<<63 - 1} }

func noPlaces() []int { return []int{-1, 256, 257, 511, 1 << 32, -256, -1 << 63, 1<<63 - 1} }

func noTrustees(of int) []int {
	return []int{0, -1, of + 1, 9, 255, 1<<32 + 1, 1<<8 + 1, -1 << 63, 1<<63 - 1}
}

// wrongCircles are numbers of whom some are needed that are not right.
func wrongCircles() [][2]int {
	return [][2]int{{1, 0}, {0, 0}, {0, 1}, {2, 1}, {1, 9}, {9, 9}, {-1, 3}, {4, 3}, {9, 8}, {1, -1}, {-2, -1}, {-1 << 63, 1<<63 - 1}, {1, 1<<63 - 1}, {1, 1<<32 + 3}}
}

// same tells where something else comes than should.
func same[T any](t *testing.T, what string, got T, e api.Errno, want T) {
	t.Helper()
	if e != api.OK || !reflect.DeepEqual(got, want) {
		t.Errorf("%s: %x comes, error %d, not %x", what, any(got), e, any(want))
	}
}

// fails tells where an error is another one, or something comes beside it.
func fails(t *testing.T, what string, nothing bool, e api.Errno, want api.Errno) {
	t.Helper()
	if !nothing || e != want {
		t.Errorf("%s: error %d comes, not %d (nothing beside it: %t)", what, e, want, nothing)
	}
}

// noDealing and noSettled tell whether nothing is in them.
func noDealing(d api.Dealing) bool { return len(d.Commits) == 0 && len(d.Shares) == 0 }

func noSettled(s api.Settled) bool {
	return len(s.Dealers) == 0 && s.Key == "" && len(s.Publics) == 0
}

// clonePost is another one that says the same, so that one can be changed.
func clonePost(p api.Post) api.Post {
	p.Commits = append([]string(nil), p.Commits...)
	p.Proof.Answers = append([]string(nil), p.Proof.Answers...)
	return p
}
