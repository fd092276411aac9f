package ballot_test

import (
	"slices"
	"testing"

	"hustings/api"
	"hustings/ballot"
	"hustings/group"
)

func TestC1Kind(t *testing.T) {
	r := ringOf(api.Short)
	good := r.encryptModel(r.public(), r.small(5), r.small(9))
	for _, kind := range noKinds() {
		for _, s := range []string{r.small(3), ""} {
			for _, c := range []api.Cipher{good, {}} {
				got, e := ballot.Encrypt(kind, s, s, s)
				fails(t, "Encrypt", noCipher(got), e, api.ErrKind)
				got, e = ballot.Sum(kind, []api.Cipher{c})
				fails(t, "Sum", noCipher(got), e, api.ErrKind)
				got, e = ballot.Sum(kind, nil)
				fails(t, "Sum of none", noCipher(got), e, api.ErrKind)
				got, e = ballot.Renew(kind, s, c, s)
				fails(t, "Renew", noCipher(got), e, api.ErrKind)
				x, e := ballot.Decrypt(kind, s, c)
				fails(t, "Decrypt", x == "", e, api.ErrKind)
			}
		}
	}
}

func TestC1Ciphers(t *testing.T) {
	kinds(t, func(t *testing.T, r ring) {
		d := dice()
		check := func(key, x, nonce string, c api.Cipher) {
			t.Helper()
			got, e := ballot.Encrypt(r.kind, key, x, nonce)
			same(t, "Encrypt", got, e, r.encryptModel(key, x, nonce))
			got, e = ballot.Renew(r.kind, key, c, nonce)
			same(t, "Renew", got, e, r.renewModel(key, c, nonce))
			shown, e := ballot.Decrypt(r.kind, x, c)
			same(t, "Decrypt", shown, e, r.decryptModel(x, c))
		}
		for range 60 {
			check(r.any(d), r.any(d), r.any(d), r.anyCipher(d))
		}
		zero, last := r.small(0), r.small(1)
		last = r.text(number(r.text(r.order)).Sub(r.order, number(last)))
		for _, key := range []string{r.small(1), r.small(2), r.text(r.order)} {
			for _, x := range []string{zero, r.small(1), last} {
				for _, nonce := range []string{zero, r.small(1), last} {
					check(key, x, nonce, api.Cipher{A: key, B: r.text(r.order)})
					check(key, x, nonce, api.Cipher{A: r.text(r.order), B: r.small(1)})
				}
			}
		}
	})
}

func TestC1Sum(t *testing.T) {
	kinds(t, func(t *testing.T, r ring) {
		d := dice()
		one := api.Cipher{A: r.small(1), B: r.small(1)}
		for _, none := range [][]api.Cipher{nil, {}} {
			got, e := ballot.Sum(r.kind, none)
			same(t, "Sum of none", got, e, one)
		}
		// More than may be handed to Product of chapter 3, too.
		for _, n := range []int{1, 2, 3, 17, 255, 256, 257, 700} {
			var l []api.Cipher
			for range n {
				l = append(l, r.anyCipher(d))
			}
			got, e := ballot.Sum(r.kind, l)
			same(t, "Sum", got, e, r.sumModel(l))
		}
	})
}

// TestC1Hidden: what was hidden is shown to whoever knows the secret, also when it is added up and renewed.
func TestC1Hidden(t *testing.T) {
	kinds(t, func(t *testing.T, r ring) {
		d := dice()
		total := 0
		var l []api.Cipher
		for x := range 20 {
			c, e := ballot.Encrypt(r.kind, r.public(), r.small(int64(x)), r.any(d))
			tells(t, "Encrypt", e, api.OK)
			other, e := ballot.Renew(r.kind, r.public(), c, r.any(d))
			tells(t, "Renew", e, api.OK)
			if other == c {
				t.Error("it was not renewed")
			}
			l = append(l, other)
			total += x
			shown, _ := ballot.Decrypt(r.kind, r.secret(), other)
			n, e := group.Log(r.kind, shown, 100)
			same(t, "what was hidden", n, e, x)
		}
		sum, _ := ballot.Sum(r.kind, l)
		shown, _ := ballot.Decrypt(r.kind, r.secret(), sum)
		n, e := group.Log(r.kind, shown, 1000)
		same(t, "the sum", n, e, total)
	})
}

func TestC1NoElement(t *testing.T) {
	kinds(t, func(t *testing.T, r ring) {
		good := r.small(3)
		c := api.Cipher{A: good, B: good}
		for _, none := range r.noElems() {
			// What else is wrong is told later: but of Decrypt ahead of it.
			for _, s := range []string{good, "none"} {
				got, e := ballot.Encrypt(r.kind, none, s, s)
				fails(t, "Encrypt", noCipher(got), e, api.ErrElem)
				got, e = ballot.Renew(r.kind, none, c, s)
				fails(t, "Renew: key", noCipher(got), e, api.ErrElem)
				for _, bad := range []api.Cipher{{A: none, B: good}, {A: good, B: none}, {A: none, B: none}} {
					got, e = ballot.Renew(r.kind, good, bad, s)
					fails(t, "Renew: cipher", noCipher(got), e, api.ErrElem)
				}
			}
			for _, bad := range []api.Cipher{{A: none, B: good}, {A: good, B: none}} {
				x, e := ballot.Decrypt(r.kind, good, bad)
				fails(t, "Decrypt", x == "", e, api.ErrElem)
				for _, l := range [][]api.Cipher{{bad}, {c, c, bad}, {bad, c}, append(slices.Repeat([]api.Cipher{c}, 300), bad)} {
					got, e := ballot.Sum(r.kind, l)
					fails(t, "Sum", noCipher(got), e, api.ErrElem)
				}
			}
		}
	})
}

func TestC1NoScalar(t *testing.T) {
	kinds(t, func(t *testing.T, r ring) {
		good := r.small(3)
		c := api.Cipher{A: good, B: good}
		for _, none := range r.noScalars() {
			got, e := ballot.Encrypt(r.kind, good, none, good)
			fails(t, "Encrypt: x", noCipher(got), e, api.ErrScalar)
			got, e = ballot.Encrypt(r.kind, good, good, none)
			fails(t, "Encrypt: nonce", noCipher(got), e, api.ErrScalar)
			got, e = ballot.Renew(r.kind, good, c, none)
			fails(t, "Renew", noCipher(got), e, api.ErrScalar)
			for _, c := range []api.Cipher{c, {A: "", B: good}, {A: good}} {
				x, e := ballot.Decrypt(r.kind, none, c)
				fails(t, "Decrypt", x == "", e, api.ErrScalar)
			}
		}
	})
}

// TestE2Sum: what is handed in is only read.
func TestE2Sum(t *testing.T) {
	r, d := ringOf(api.Short), dice()
	l := []api.Cipher{r.anyCipher(d), r.anyCipher(d), r.anyCipher(d)}
	before := slices.Clone(l)
	ballot.Sum(r.kind, l[:2])
	same(t, "the ciphers", l, api.OK, before)
}
