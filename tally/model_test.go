package tally_test

import (
	"math/big"

	"hustings/api"
	"hustings/fold"
	"hustings/sigma"
)

// What the document says of keys and shares, in the order of its words, with numbers of math/big; of manifests that nothing
// is wrong with.

// togetherModel is the product of the powers of elements at places by the places' weights.
func (r ring) togetherModel(at []int, values []string) string {
	product := r.small(1)
	for i, x := range at {
		weight := big.NewInt(1)
		for _, y := range at {
			if y != x {
				below := new(big.Int).Mod(big.NewInt(int64(y-x)), r.order)
				weight.Mul(weight, big.NewInt(int64(y)))
				weight.Mul(weight, below.ModInverse(below, r.order))
			}
		}
		product = r.times(product, r.power(values[i], r.scalar(weight)))
	}
	return product
}

// choices are all lists of so many of the numbers from first to last, rising.
func choices(n, first, last int) [][]int {
	if n == 0 {
		return [][]int{nil}
	}
	var out [][]int
	for x := first; x <= last; x++ {
		for _, l := range choices(n-1, x+1, last) {
			out = append(out, append([]int{x}, l...))
		}
	}
	return out
}

// keyModel looks at every choice.
func keyModel(m api.Manifest) (string, api.Errno) {
	key := ""
	for _, at := range choices(m.Need, 1, len(m.Trustees)) {
		var publics []string
		for _, x := range at {
			publics = append(publics, m.Trustees[x-1])
		}
		one := ringOf(m.Kind).togetherModel(at, publics)
		if key != "" && one != key {
			return "", api.ErrProof
		}
		key = one
	}
	return key, api.OK
}

func four(n int) string {
	return string([]byte{byte(n >> 24), byte(n >> 16), byte(n >> 8), byte(n)})
}

// labelModel is that of the proof of a share.
func labelModel(label string, trustee int, c api.Cipher) string {
	return fold.Tag("share", []string{label, four(trustee), c.A, c.B})
}

// claimsModel is what it proves.
func claimsModel(m api.Manifest, trustee int, c api.Cipher, value string) []api.Claim {
	return []api.Claim{{Bases: []string{ringOf(m.Kind).small(2), c.A}, Images: []string{m.Trustees[trustee-1], value}}}
}

// shareModel is a share.
func shareModel(m api.Manifest, label string, trustee int, secret string, c api.Cipher, seed string) api.Share {
	value := ringOf(m.Kind).power(c.A, secret)
	p, e := sigma.Prove(m.Kind, labelModel(label, trustee, c), claimsModel(m, trustee, c, value), []string{secret}, seed)
	if e != api.OK {
		panic(e)
	}
	return api.Share{Trustee: trustee, Value: value, Proof: p}
}

func (r ring) isElem(s string) bool {
	return len(s) == r.size && number(s).Sign() > 0 && number(s).Cmp(r.order) <= 0
}

// rightModel tells whether a share is right.
func rightModel(m api.Manifest, label string, c api.Cipher, s api.Share) bool {
	r := ringOf(m.Kind)
	if s.Trustee < 1 || s.Trustee > len(m.Trustees) || !r.isElem(c.A) || !r.isElem(c.B) || !r.isElem(s.Value) {
		return false
	}
	return sigma.Verify(m.Kind, labelModel(label, s.Trustee, c), claimsModel(m, s.Trustee, c, s.Value), s.Proof)
}

// shownModel goes through the trustees, from the first on, and through the shares for each.
func shownModel(m api.Manifest, label string, c api.Cipher, shares []api.Share) (string, api.Errno) {
	r := ringOf(m.Kind)
	if !r.isElem(c.A) || !r.isElem(c.B) {
		return "", api.ErrElem
	}
	var at []int
	var values []string
	for x := 1; x <= len(m.Trustees); x++ {
		for _, s := range shares {
			if s.Trustee == x && rightModel(m, label, c, s) {
				at, values = append(at, x), append(values, s.Value)
				break
			}
		}
	}
	if len(at) < m.Need {
		return "", api.ErrFew
	}
	return r.over(c.B, r.togetherModel(at[:m.Need], values[:m.Need])), api.OK
}

// openModel tries all numbers.
func openModel(m api.Manifest, label string, c api.Cipher, shares []api.Share, most int) (int, api.Errno) {
	if most < 0 || most > 1<<20 {
		return 0, api.ErrRange
	}
	shown, e := shownModel(m, label, c, shares)
	if e != api.OK {
		return 0, e
	}
	r := ringOf(m.Kind)
	for x, power := 0, r.small(1); x <= most; x, power = x+1, r.times(power, r.small(2)) {
		if power == shown {
			return x, api.OK
		}
	}
	return 0, api.ErrNone
}
