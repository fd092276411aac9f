package trust_test

import (
	"slices"
	"strings"
	"testing"

	"hustings/api"
	"hustings/trust"
)

func TestH2Deal(t *testing.T) {
	kinds(t, func(t *testing.T, r ring) {
		for of := 1; of <= 8; of++ {
			for need := 1; need <= of; need++ {
				for _, seed := range []string{"", "seed", strings.Repeat("\x00\xff", 500)} {
					d, e := trust.Deal(r.kind, need, of, seed)
					same(t, "Deal", d, e, modelDeal(r, need, of, seed))
				}
			}
		}
	})
}

// TestH2Shares: any need of the shares give the secret whose power of BASE is the first commit.
func TestH2Shares(t *testing.T) {
	kinds(t, func(t *testing.T, r ring) {
		d, _ := trust.Deal(r.kind, 3, 7, "seed")
		lots := dice()
		for range 10 {
			at := lots.Perm(7)[:3]
			var values []string
			for i := range at {
				values = append(values, d.Shares[at[i]])
				at[i]++
			}
			secret, e := trust.Through(r.kind, at, values, 0)
			same(t, "the secret", secret, e, modelCoefficients(r, 3, "seed")[0])
			same(t, "its power", d.Commits[0], e, r.raised(secret))
		}
	})
}

func TestH2Wrong(t *testing.T) {
	kinds(t, func(t *testing.T, r ring) {
		for _, c := range wrongCircles() {
			d, e := trust.Deal(r.kind, c[0], c[1], "seed")
			fails(t, "Deal", noDealing(d), e, api.ErrRange)
			for _, kind := range noKinds() {
				d, e = trust.Deal(kind, c[0], c[1], "seed")
				fails(t, "Deal", noDealing(d), e, api.ErrKind)
			}
		}
	})
	for _, kind := range noKinds() {
		d, e := trust.Deal(kind, 2, 3, "seed")
		fails(t, "Deal", noDealing(d), e, api.ErrKind)
	}
}

func TestH3Seen(t *testing.T) {
	kinds(t, func(t *testing.T, r ring) {
		d := dice()
		for _, n := range []int{1, 2, 3, 8, 15, 16} {
			for _, x := range []int{0, 1, 2, 8, 128, 254, 255} {
				commits := r.anyOf(d, n)
				got, e := trust.Seen(r.kind, commits, x)
				same(t, "Seen", got, e, modelSeen(r, commits, x))
				if x == 0 {
					same(t, "at 0", got, e, commits[0])
				}
			}
		}
		got, e := trust.Seen(r.kind, []string{r.text(r.order), r.small(1)}, 255)
		same(t, "the last element", got, e, r.text(r.order))
	})
}

func TestH3SeenWrong(t *testing.T) {
	kinds(t, func(t *testing.T, r ring) {
		one := r.small(1)
		many := slices.Repeat([]string{one}, 17)
		check := func(what string, kind int, commits []string, x int, want api.Errno) {
			t.Helper()
			s, e := trust.Seen(kind, commits, x)
			fails(t, what, s == "", e, want)
			for _, share := range []string{r.small(0), one, "", "none"} {
				if trust.Fits(kind, commits, x, share) {
					t.Errorf("%s: a share fits", what)
				}
			}
		}
		for _, x := range append(noPlaces(), 0, 1, 255) {
			check("too many", r.kind, many, x, api.ErrLong)
			check("too many, none an element", r.kind, slices.Repeat([]string{"none"}, 17), x, api.ErrLong)
			check("none", r.kind, nil, x, api.ErrForm)
			check("none", r.kind, []string{}, x, api.ErrForm)
			for _, none := range r.noElems() {
				check("no element", r.kind, []string{none}, x, api.ErrElem)
				check("no element", r.kind, []string{one, one, none}, x, api.ErrElem)
			}
			for _, kind := range noKinds() {
				check("no kind", kind, []string{one}, x, api.ErrKind)
				check("no kind", kind, nil, x, api.ErrKind)
				check("no kind", kind, many, x, api.ErrKind)
			}
		}
		for _, x := range noPlaces() {
			check("no place", r.kind, []string{one, one}, x, api.ErrRange)
		}
	})
}

func TestH3Fits(t *testing.T) {
	kinds(t, func(t *testing.T, r ring) {
		d, _ := trust.Deal(r.kind, 3, 8, "seed")
		coefficients := modelCoefficients(r, 3, "seed")
		for _, x := range []int{0, 1, 2, 3, 8, 9, 254, 255} {
			share := modelValue(r, coefficients, x)
			if !trust.Fits(r.kind, d.Commits, x, share) {
				t.Errorf("the share at %d does not fit", x)
			}
			for n := range int64(50) {
				if trust.Fits(r.kind, d.Commits, x, r.add(share, r.small(n+1))) {
					t.Errorf("another share fits at %d", x)
				}
			}
			for _, none := range append(r.noScalars(), r.text(number(share).Add(number(share), r.order))) {
				if trust.Fits(r.kind, d.Commits, x, none) {
					t.Errorf("%x fits at %d, and is no scalar", none, x)
				}
			}
			if other := modelValue(r, coefficients, x+1); other != share && trust.Fits(r.kind, d.Commits, x, other) {
				t.Errorf("the share at %d fits at %d", x+1, x)
			}
		}
		if !trust.Fits(r.kind, []string{r.small(1)}, 5, r.small(0)) {
			t.Error("0 does not fit where nothing is dealt")
		}
	})
}

// TestE2Deal: dealings do not hang on one another.
func TestE2Deal(t *testing.T) {
	r := rings()[1]
	d, _ := trust.Deal(r.kind, 2, 3, "seed")
	_ = append(d.Commits, "behind")
	d.Commits[0], d.Shares[0] = "x", "y"
	again, e := trust.Deal(r.kind, 2, 3, "seed")
	same(t, "Deal again", again, e, modelDeal(r, 2, 3, "seed"))
	commits := append(again.Commits, "spare")[:2]
	kept := slices.Clone(commits[:3])
	trust.Seen(r.kind, commits, 3)
	trust.Fits(r.kind, commits, 3, again.Shares[2])
	same(t, "the commits", commits[:3], api.OK, kept)
}
