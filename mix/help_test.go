package mix_test

import (
	"fmt"
	"math/big"
	"math/rand/v2"
	"reflect"
	"strings"
	"testing"

	"hustings/api"
)

// The edges of int.
const (
	least = -1 << 63
	most  = 1<<63 - 1
)

// dice is a row of numbers that is the same each time.
func dice() *rand.Rand { return rand.New(rand.NewPCG(11, 1)) }

// ring is what the document's table says of a kind, and what is reckoned with it by math/big.
type ring struct {
	kind, size   int
	order, prime *big.Int
}

// ringOf is that of a kind.
func ringOf(kind int) ring {
	h := new(big.Int).Lsh(big.NewInt(1), 125)
	h.Add(h, big.NewInt(9087))
	switch kind {
	case api.Tiny:
		return newRing(kind, big.NewInt(5), 7, 2)
	case api.Short:
		return newRing(kind, big.NewInt(268437635), 31, 8)
	}
	return newRing(kind, h, 127, 32)
}

func newRing(kind int, h *big.Int, k uint, size int) ring {
	order := new(big.Int).Lsh(h, k)
	order.Add(order, big.NewInt(1))
	prime := new(big.Int).Lsh(order, 1)
	prime.Add(prime, big.NewInt(1))
	return ring{kind, size, order, prime}
}

// text is a number in as many bytes as the kind has.
func (r ring) text(n *big.Int) string { return string(n.FillBytes(make([]byte, r.size))) }

// small is a small number in bytes.
func (r ring) small(n int64) string { return r.text(big.NewInt(n)) }

// number is bytes as a number.
func number(b string) *big.Int { return new(big.Int).SetBytes([]byte(b)) }

func (r ring) add(a, b string) string {
	n := new(big.Int).Add(number(a), number(b))
	return r.text(n.Mod(n, r.order))
}

// elem is a number as the element that it is.
func (r ring) elem(n *big.Int) string {
	c := new(big.Int).Mod(n, r.prime)
	if c.Cmp(r.order) > 0 {
		c.Sub(r.prime, c)
	}
	return r.text(c)
}

func (r ring) times(a, b string) string { return r.elem(new(big.Int).Mul(number(a), number(b))) }

func (r ring) over(a, b string) string {
	return r.elem(new(big.Int).Mul(number(a), new(big.Int).ModInverse(number(b), r.prime)))
}

func (r ring) power(a, n string) string {
	return r.elem(new(big.Int).Exp(number(a), number(n), r.prime))
}

// any is a scalar that is an element too.
func (r ring) any(d *rand.Rand) string {
	b := make([]byte, r.size+8)
	for i := range b {
		b[i] = byte(d.IntN(256))
	}
	n := new(big.Int).Mod(number(string(b)), new(big.Int).Sub(r.order, big.NewInt(1)))
	return r.text(n.Add(n, big.NewInt(1)))
}

// noElems are texts that are none.
func (r ring) noElems() []string {
	return []string{
		"", "\x01", r.small(0), r.text(new(big.Int).Add(r.order, big.NewInt(1))), r.text(r.prime), strings.Repeat("\xff", r.size),
		r.small(1) + "\x00", "\x00" + r.small(1), r.small(1)[1:], strings.Repeat("\x01", 4000),
	}
}

// kinds runs a test for each kind.
func kinds(t *testing.T, do func(t *testing.T, r ring)) {
	for i, name := range []string{"Tiny", "Short", "Full"} {
		t.Run(name, func(t *testing.T) { do(t, ringOf(i+1)) })
	}
}

// noKinds are numbers that are none.
func noKinds() []int { return []int{0, -1, 4, 9, 257, 258, 259, least, most} }

// secret is a number that only some know, public its public key.
func (r ring) secret() string { return r.text(new(big.Int).Sub(r.order, big.NewInt(77))) }

func (r ring) public() string { return r.power(r.small(2), r.secret()) }

// anyRows are so many rows, each of so many ciphers of any elements.
func (r ring) anyRows(d *rand.Rand, n, size int) [][]api.Cipher {
	rows := make([][]api.Cipher, n)
	for i := range rows {
		for range size {
			rows[i] = append(rows[i], api.Cipher{A: r.any(d), B: r.any(d)})
		}
	}
	return rows
}

// hidden are rows of which the i-th hides the numbers 12 i + 1, 12 i + 2 and so on.
func (r ring) hidden(d *rand.Rand, n, size int) [][]api.Cipher {
	rows := make([][]api.Cipher, n)
	for i := range rows {
		for j := range size {
			nonce := r.any(d)
			shown := r.power(r.small(2), r.small(int64(12*i+j+1)))
			rows[i] = append(rows[i], api.Cipher{A: r.power(r.small(2), nonce), B: r.times(shown, r.power(r.public(), nonce))})
		}
	}
	return rows
}

// anyCrossed is some gates that are crossed and some that are not.
func anyCrossed(d *rand.Rand, n int) []bool {
	out := make([]bool, len(planModel(n)))
	for i := range out {
		out[i] = d.IntN(2) == 1
	}
	return out
}

// roomy is another list with the same entries, and spare room behind them.
func roomy[T any](l []T) []T { return append(make([]T, 0, len(l)+5), l...) }

// cloneRows are rows that share no memory, with spare room behind all lists.
func cloneRows(rows [][]api.Cipher) [][]api.Cipher {
	out := roomy(rows)
	for i, row := range out {
		out[i] = roomy(row)
	}
	return out
}

// clone is another mix that shares no memory, with spare room behind all lists.
func clone(m api.Mixed) api.Mixed {
	m = api.Mixed{Pairs: roomy(m.Pairs), Proofs: roomy(m.Proofs), Out: cloneRows(m.Out)}
	for i, p := range m.Pairs {
		m.Pairs[i] = [2][]api.Cipher{roomy(p[0]), roomy(p[1])}
	}
	for i, p := range m.Proofs {
		p = api.Either{Challenges: roomy(p.Challenges), Answers: roomy(p.Answers)}
		for k, answers := range p.Answers {
			p.Answers[k] = roomy(answers)
		}
		m.Proofs[i] = p
	}
	return m
}

// same tells where something else comes than should. Lists without entries are all the same.
func same[T any](t *testing.T, what string, got T, e api.Errno, want T) {
	t.Helper()
	if e != api.OK || !reflect.DeepEqual(got, want) && short(got, most) != short(want, most) {
		t.Errorf("%s: %s comes, error %d, not %s", what, short(got, 300), e, short(want, 300))
	}
}

// fails tells where an error is another one, or something comes beside it.
func fails(t *testing.T, what string, nothing bool, e api.Errno, want api.Errno) {
	t.Helper()
	if !nothing || e != want {
		t.Errorf("%s: error %d comes, not %d (nothing beside it: %t)", what, e, want, nothing)
	}
}

// tells tells where an error is another one.
func tells(t *testing.T, what string, e api.Errno, want api.Errno) {
	t.Helper()
	fails(t, what, true, e, want)
}

// short is a value as a message can show it, in so many bytes.
func short(v any, room int) string {
	s := fmt.Sprintf("%+q", v)
	if len(s) > room {
		return s[:room] + ".."
	}
	return s
}

// noMix tells whether nothing is in it.
func noMix(m api.Mixed) bool { return len(m.Pairs) == 0 && len(m.Proofs) == 0 && len(m.Out) == 0 }
