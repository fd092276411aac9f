package group

import (
	"math/big"
	"testing"

	"hustings/api"
)

// TestG1Grounds: what is written out of each kind follows from its primes.
func TestG1Grounds(t *testing.T) {
	for _, kind := range []int{api.Tiny, api.Short, api.Full} {
		g, _ := groundOf(kind)
		for _, f := range []field{g.scalars, g.elems} {
			bits := uint(64 * f.words)
			prime := f.modulus.big()
			all := new(big.Int).Lsh(big.NewInt(1), bits)
			if prime.BitLen() >= int(bits) {
				t.Errorf("kind %d: %d has no room for its double", kind, prime)
			}
			if f.modulus[0]*f.low != 1<<64-1 {
				t.Errorf("kind %d: low is wrong", kind)
			}
			if one := new(big.Int).Mod(all, prime); one.Cmp(f.one.big()) != 0 {
				t.Errorf("kind %d: one is not %x", kind, one)
			}
			if square := new(big.Int).Exp(all, big.NewInt(2), prime); square.Cmp(f.square.big()) != 0 {
				t.Errorf("kind %d: square is not %x", kind, square)
			}
		}
	}
}

// big is a number as math/big has it.
func (n number) big() *big.Int { return new(big.Int).SetBytes([]byte(n.text(mostWords * wordSize))) }
