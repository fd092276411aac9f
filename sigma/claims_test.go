package sigma_test

import (
	"slices"
	"strings"
	"testing"

	"hustings/api"
	"hustings/sigma"
)

// flaw is a list of claims that is not right, and what is wrong with it.
type flaw struct {
	name   string
	claims []api.Claim
	e      api.Errno
}

// flaws are lists of claims that are not right. Where several things are wrong, all of them are.
func flaws(r ring) []flaw {
	one := func(bases, images int) api.Claim {
		return api.Claim{Bases: slices.Repeat([]string{r.small(2)}, bases), Images: slices.Repeat([]string{r.small(3)}, images)}
	}
	strange := api.Claim{Bases: []string{r.small(0)}, Images: []string{r.small(1)}}
	good := one(2, 2)
	out := []flaw{
		{"nil", nil, api.ErrForm},
		{"none", []api.Claim{}, api.ErrForm},
		{"65", slices.Repeat([]api.Claim{good}, 65), api.ErrLong},
		{"65 empty", make([]api.Claim, 65), api.ErrLong},
		{"1000 that are no elements", slices.Repeat([]api.Claim{strange}, 1000), api.ErrLong},
		{"9 bases", []api.Claim{one(9, 8)}, api.ErrLong},
		{"9 images", []api.Claim{one(8, 9)}, api.ErrLong},
		{"9 of both", []api.Claim{good, one(9, 9)}, api.ErrLong},
		{"9 images, no base", []api.Claim{one(0, 9)}, api.ErrLong},
		{"9 bases, no image", []api.Claim{one(9, 0)}, api.ErrLong},
		{"9 bases behind an empty one", []api.Claim{{}, strange, one(9, 9)}, api.ErrLong},
		{"9 bases behind 63", append(slices.Repeat([]api.Claim{good}, 63), one(9, 9)), api.ErrLong},
		{"empty", []api.Claim{{}}, api.ErrForm},
		{"an empty one behind", []api.Claim{good, {}}, api.ErrForm},
		{"no base", []api.Claim{one(0, 1)}, api.ErrForm},
		{"no image", []api.Claim{one(1, 0)}, api.ErrForm},
		{"7 images of 8", []api.Claim{one(8, 7)}, api.ErrForm},
		{"8 images of 7", []api.Claim{good, one(7, 8), good}, api.ErrForm},
		{"an empty one behind one that is no element", []api.Claim{strange, {}}, api.ErrForm},
		{"an empty one behind 63", append(slices.Repeat([]api.Claim{good}, 63), api.Claim{}), api.ErrForm},
		{"no element behind 63", append(slices.Repeat([]api.Claim{good}, 63), strange), api.ErrElem},
	}
	for _, none := range r.noElems() {
		base, image := one(8, 8), one(8, 8)
		base.Bases[7], image.Images[7] = none, none
		out = append(out,
			flaw{"a base that is none", []api.Claim{{Bases: []string{none}, Images: []string{r.small(2)}}}, api.ErrElem},
			flaw{"an image that is none", []api.Claim{{Bases: []string{r.small(2)}, Images: []string{none}}}, api.ErrElem},
			flaw{"the last base is none", []api.Claim{good, base}, api.ErrElem},
			flaw{"the last image is none", []api.Claim{image, good}, api.ErrElem},
		)
	}
	return out
}

func TestQ1Kind(t *testing.T) {
	r := rings()[1]
	claims := []api.Claim{{Bases: []string{r.small(2)}, Images: []string{r.small(2)}}}
	one := []string{r.small(1)}
	for _, kind := range noKinds() {
		for _, l := range [][]api.Claim{claims, nil, make([]api.Claim, 65), {{Bases: one}}} {
			for _, n := range [][]string{one, nil, {"x"}} {
				if sigma.Holds(kind, l, n) {
					t.Errorf("Holds of kind %d", kind)
				}
				got, e := sigma.First(kind, l, n)
				fails(t, "First", got == nil, e, api.ErrKind)
				got, e = sigma.Back(kind, l, r.small(1), n)
				fails(t, "Back", got == nil, e, api.ErrKind)
				p, e := sigma.Prove(kind, "label", l, n, "seed")
				fails(t, "Prove", noProof(p), e, api.ErrKind)
			}
		}
	}
}

func TestQ1Claims(t *testing.T) {
	kinds(t, func(t *testing.T, r ring) {
		for _, f := range flaws(r) {
			for _, n := range []int{0, len(f.claims), len(f.claims) + 1} {
				for _, x := range []string{r.small(1), "none"} {
					numbers := slices.Repeat([]string{x}, n)
					got, e := sigma.First(r.kind, f.claims, numbers)
					fails(t, "First: "+f.name, got == nil, e, f.e)
					got, e = sigma.Back(r.kind, f.claims, x, numbers)
					fails(t, "Back: "+f.name, got == nil, e, f.e)
					p, e := sigma.Prove(r.kind, "label", f.claims, numbers, "seed")
					fails(t, "Prove: "+f.name, noProof(p), e, f.e)
					if sigma.Holds(r.kind, f.claims, numbers) {
						t.Errorf("Holds: %s", f.name)
					}
				}
			}
		}
	})
}

func TestQ1Numbers(t *testing.T) {
	kinds(t, func(t *testing.T, r ring) {
		d := dice()
		secrets := r.anyOf(d, 3)
		claims := r.claims(d, secrets, 1, 2, 1)
		check := func(what, challenge string, numbers []string, want api.Errno) {
			t.Helper()
			got, e := sigma.First(r.kind, claims, numbers)
			fails(t, "First, "+what, got == nil, e, want)
			got, e = sigma.Back(r.kind, claims, challenge, numbers)
			fails(t, "Back, "+what, got == nil, e, want)
			p, e := sigma.Prove(r.kind, "label", claims, numbers, "seed")
			fails(t, "Prove, "+what, noProof(p), e, want)
			if sigma.Holds(r.kind, claims, numbers) {
				t.Errorf("Holds, %s", what)
			}
		}
		for _, challenge := range []string{secrets[0], "none"} {
			check("none", challenge, nil, api.ErrForm)
			check("too few", challenge, secrets[:2], api.ErrForm)
			check("too many", challenge, append(secrets[:3:3], secrets[0]), api.ErrForm)
			check("too few, and no scalars", challenge, []string{"a", "b"}, api.ErrForm)
			check("far too many", challenge, make([]string, 100000), api.ErrForm)
			for _, none := range r.noScalars() {
				for i := range secrets {
					numbers := slices.Clone(secrets)
					numbers[i] = none
					check("no scalar", challenge, numbers, api.ErrScalar)
				}
			}
		}
		for _, none := range r.noScalars() {
			got, e := sigma.Back(r.kind, claims, none, secrets)
			fails(t, "Back, no challenge", got == nil, e, api.ErrScalar)
		}
	})
}

func TestQ1FirstAndBack(t *testing.T) {
	kinds(t, func(t *testing.T, r ring) {
		d := dice()
		check := func(claims []api.Claim, challenge string, numbers []string) {
			t.Helper()
			var first, back [][]string
			for i, c := range claims {
				first = append(first, modelFirst(r, c, numbers[i]))
				back = append(back, modelBack(r, c, challenge, numbers[i]))
			}
			got, e := sigma.First(r.kind, claims, numbers)
			same(t, "First", got, e, first)
			got, e = sigma.Back(r.kind, claims, challenge, numbers)
			same(t, "Back", got, e, back)
		}
		zero, last := r.small(0), r.sub(r.small(0), r.small(1))
		for range 20 {
			secrets := r.anyOf(d, 4)
			claims := r.claims(d, r.anyOf(d, 4), 1, 8, 2, 3)
			for _, c := range []string{r.any(d), zero, r.small(1), last} {
				check(claims, c, secrets)
				check(claims, c, []string{zero, last, r.small(1), zero})
			}
		}
		ends := []api.Claim{{Bases: []string{r.small(1), r.text(r.order)}, Images: []string{r.text(r.order), r.small(1)}}}
		check(ends, last, []string{last})
		most := r.claims(d, r.anyOf(d, 64), slices.Repeat([]int{8}, 64)...)
		check(most, r.any(d), r.anyOf(d, 64))
	})
}

// TestQ1BackOfFirst: what comes back of an answer to a challenge is what was said first, if the claims hold.
func TestQ1BackOfFirst(t *testing.T) {
	kinds(t, func(t *testing.T, r ring) {
		d := dice()
		for range 50 {
			secrets, nonces, c := r.anyOf(d, 2), r.anyOf(d, 2), r.any(d)
			claims := r.claims(d, secrets, 3, 1)
			answers := []string{r.add(nonces[0], r.mul(c, secrets[0])), r.add(nonces[1], r.mul(c, secrets[1]))}
			first, _ := sigma.First(r.kind, claims, nonces)
			back, e := sigma.Back(r.kind, claims, c, answers)
			same(t, "Back", back, e, first)
		}
	})
}

func TestQ1Holds(t *testing.T) {
	kinds(t, func(t *testing.T, r ring) {
		d := dice()
		for range 10 {
			secrets := r.anyOf(d, 3)
			claims := r.claims(d, secrets, 1, 8, 2)
			if !sigma.Holds(r.kind, claims, secrets) {
				t.Error("claims that hold do not")
			}
			for i := range claims {
				for k := range claims[i].Bases {
					other := cloneClaims(claims)
					other[i].Images[k] = r.product(other[i].Images[k], r.small(1), r.small(2), r.small(1))
					if sigma.Holds(r.kind, other, secrets) {
						t.Errorf("claim %d holds with another image %d", i, k)
					}
				}
				others := slices.Clone(secrets)
				others[i] = r.add(others[i], r.small(1))
				// Of a base 1 each scalar is the secret: here stands none.
				if sigma.Holds(r.kind, claims, others) {
					t.Errorf("claim %d holds with another secret", i)
				}
			}
		}
		one := []api.Claim{{Bases: []string{r.small(1)}, Images: []string{r.small(1)}}}
		base := []api.Claim{{Bases: []string{r.small(2)}, Images: []string{r.small(1)}}}
		if !sigma.Holds(r.kind, one, []string{r.small(0)}) || !sigma.Holds(r.kind, one, []string{r.small(5)}) || !sigma.Holds(r.kind, base, []string{r.small(0)}) || sigma.Holds(r.kind, base, []string{r.small(1)}) {
			t.Error("claims with 1 or 0")
		}
		secrets := r.anyOf(d, 64)
		most := r.claims(d, secrets, slices.Repeat([]int{8}, 64)...)
		if !sigma.Holds(r.kind, most, secrets) {
			t.Error("64 claims with 8 bases do not hold")
		}
		most[63].Images[7] = r.small(1)
		if sigma.Holds(r.kind, most, secrets) {
			t.Error("64 claims hold, the last one of which does not")
		}
	})
}

// TestE2FirstAndBack: what is handed in is only read, and no two lists of an answer share memory.
func TestE2FirstAndBack(t *testing.T) {
	r, d := rings()[1], dice()
	secrets := r.anyOf(d, 2)
	claims := r.claims(d, secrets, 2, 2)
	spare := append(secrets, "spare")[:2]
	before := cloneClaims(claims)
	first, _ := sigma.First(r.kind, claims, spare)
	back, _ := sigma.Back(r.kind, claims, secrets[0], spare)
	again, _ := sigma.First(r.kind, claims, spare)
	for _, l := range [][][]string{first, back} {
		want := slices.Clone(l[1])
		l[0] = append(l[0], "behind")
		l[0][0], l[0][1] = "x", "y"
		if !slices.Equal(l[1], want) {
			t.Error("two lists share memory")
		}
	}
	same(t, "First again", again[0], api.OK, modelFirst(r, claims[0], secrets[0]))
	same(t, "claims", claims, api.OK, before)
	if spare[:3][2] != "spare" || strings.Join(spare, "") != strings.Join(secrets, "") {
		t.Error("the numbers were changed")
	}
}
