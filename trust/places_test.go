package trust_test

import (
	"math/big"
	"slices"
	"testing"

	"hustings/api"
	"hustings/trust"
)

// somePlaces are right lists of them, with the edges.
func somePlaces() [][]int {
	out := [][]int{{0}, {1}, {255}, {0, 255}, {255, 0}, {1, 2, 5}, {5, 1, 2}, {3, 0, 7}}
	var low, high []int
	for i := range 16 {
		low, high = append(low, i), append(high, 255-i)
	}
	d := dice()
	for range 6 {
		out = append(out, d.Perm(256)[:1+d.IntN(16)])
	}
	return append(out, low, high, low[1:])
}

// wrongPlaces are lists that are not right, with what is wrong.
func wrongPlaces() map[api.Errno][][]int {
	var many, lone []int
	for i := range 17 {
		many, lone = append(many, i), append(lone, 300)
	}
	out := map[api.Errno][][]int{
		api.ErrLong:  {many, lone, make([]int, 17), make([]int, 1000)},
		api.ErrForm:  {nil, {}},
		api.ErrTwice: {{1, 1}, {0, 0}, {255, 3, 255}, {1, 2, 3, 2}, make([]int, 16), append([]int{14}, many[:15]...)},
	}
	for _, x := range noPlaces() {
		out[api.ErrRange] = append(out[api.ErrRange], []int{x}, []int{1, x}, []int{x, 1, 1}, []int{1, 1, x}, []int{x, x})
	}
	return out
}

func TestH1Weights(t *testing.T) {
	kinds(t, func(t *testing.T, r ring) {
		for _, at := range somePlaces() {
			var want []string
			for i := range at {
				want = append(want, r.text(modelWeight(r, at, i, 0)))
			}
			got, e := trust.Weights(r.kind, at)
			same(t, "Weights", got, e, want)
		}
	})
}

// TestH1Polynomials: through enough values of a polynomial goes that one, at each place.
func TestH1Polynomials(t *testing.T) {
	kinds(t, func(t *testing.T, r ring) {
		d := dice()
		for _, at := range somePlaces() {
			for _, coefficients := range [][]string{r.anyOf(d, len(at)), slices.Repeat([]string{r.small(0)}, len(at)), r.anyOf(d, 1)} {
				var values, elems []string
				for _, x := range at {
					values = append(values, modelValue(r, coefficients, x))
					elems = append(elems, r.raised(modelValue(r, coefficients, x)))
				}
				for _, x := range append([]int{0, 1, 127, 254, 255}, at...) {
					got, e := trust.Through(r.kind, at, values, x)
					same(t, "Through", got, e, modelValue(r, coefficients, x))
				}
				got, e := trust.Together(r.kind, at, elems)
				same(t, "Together", got, e, r.raised(coefficients[0]))
			}
		}
	})
}

func TestH1Together(t *testing.T) {
	kinds(t, func(t *testing.T, r ring) {
		for _, at := range somePlaces() {
			values := r.anyOf(dice(), len(at))
			want := r.small(1)
			for i, v := range values {
				want = r.times(want, r.power(v, modelWeight(r, at, i, 0)))
			}
			got, e := trust.Together(r.kind, at, values)
			same(t, "Together", got, e, want)
		}
		got, e := trust.Together(r.kind, []int{7}, []string{r.text(r.order)})
		same(t, "the last element", got, e, r.text(r.order))
	})
}

// TestH1Few: who knows one value less than are needed knows nothing, for each number may still be the secret.
func TestH1Few(t *testing.T) {
	r := rings()[0]
	d, _ := trust.Deal(r.kind, 3, 3, "seed")
	for n := range r.order.Int64() {
		secret := r.small(n)
		third, e := trust.Through(r.kind, []int{0, 1, 2}, []string{secret, d.Shares[0], d.Shares[1]}, 3)
		if e != api.OK {
			t.Fatal(e)
		}
		got, e := trust.Through(r.kind, []int{1, 2, 3}, []string{d.Shares[0], d.Shares[1], third}, 0)
		same(t, "the secret", got, e, secret)
	}
}

func TestH1WrongPlaces(t *testing.T) {
	kinds(t, func(t *testing.T, r ring) {
		for want, lists := range wrongPlaces() {
			for _, at := range lists {
				l, e := trust.Weights(r.kind, at)
				fails(t, "Weights", l == nil, e, want)
				for _, values := range [][]string{nil, {"none"}, slices.Repeat([]string{r.small(1)}, len(at)), slices.Repeat([]string{"none"}, len(at))} {
					s, e := trust.Through(r.kind, at, values, 256)
					fails(t, "Through", s == "", e, want)
					s, e = trust.Together(r.kind, at, values)
					fails(t, "Together", s == "", e, want)
				}
			}
		}
	})
}

func TestH1WrongValues(t *testing.T) {
	kinds(t, func(t *testing.T, r ring) {
		one := r.small(1)
		check := func(at []int, values []string, x int, through, together api.Errno) {
			t.Helper()
			s, e := trust.Through(r.kind, at, values, x)
			fails(t, "Through", s == "", e, through)
			s, e = trust.Together(r.kind, at, values)
			fails(t, "Together", s == "", e, together)
		}
		for _, values := range [][]string{nil, {}, {one}, {one, one, one}, {"none"}, slices.Repeat([]string{one}, 17)} {
			check([]int{1, 2}, values, -1, api.ErrForm, api.ErrForm)
		}
		for _, none := range r.noScalars()[1:] {
			if none != r.text(r.order) {
				check([]int{1, 2}, []string{none, one}, 300, api.ErrScalar, api.ErrElem)
				check([]int{1, 2}, []string{one, none}, 0, api.ErrScalar, api.ErrElem)
			}
		}
		s, e := trust.Through(r.kind, []int{1, 2}, []string{one, r.text(r.order)}, 0)
		fails(t, "ORDER is no scalar", s == "", e, api.ErrScalar)
		s, e = trust.Together(r.kind, []int{1, 2}, []string{one, r.small(0)})
		fails(t, "0 is no element", s == "", e, api.ErrElem)
		s, e = trust.Together(r.kind, []int{1, 2}, []string{r.text(new(big.Int).Add(r.order, big.NewInt(1))), one})
		fails(t, "what is above ORDER is no element", s == "", e, api.ErrElem)
		for _, x := range noPlaces() {
			s, e := trust.Through(r.kind, []int{1, 2}, []string{one, one}, x)
			fails(t, "no place", s == "", e, api.ErrRange)
		}
	})
}

func TestH1Kinds(t *testing.T) {
	one := rings()[1].small(1)
	for _, kind := range noKinds() {
		for _, at := range [][]int{{1}, nil, {1, 1}, {256}, make([]int, 17)} {
			l, e := trust.Weights(kind, at)
			fails(t, "Weights", l == nil, e, api.ErrKind)
			s, e := trust.Through(kind, at, []string{one}, 0)
			fails(t, "Through", s == "", e, api.ErrKind)
			s, e = trust.Through(kind, at, nil, -1)
			fails(t, "Through", s == "", e, api.ErrKind)
			s, e = trust.Together(kind, at, []string{one})
			fails(t, "Together", s == "", e, api.ErrKind)
		}
	}
}

// TestE2Places: what is handed in is only read, and answers are new memory.
func TestE2Places(t *testing.T) {
	r := rings()[1]
	at := append([]int{9, 3, 4}, 77)[:3]
	values := append(r.anyOf(dice(), 3), "spare")[:3]
	kept := slices.Clone(values[:4])
	first, _ := trust.Weights(r.kind, at)
	_ = append(first, "behind")
	first[0] = "x"
	second, e := trust.Weights(r.kind, at)
	same(t, "Weights again", second[0], e, r.text(modelWeight(r, at, 0, 0)))
	trust.Through(r.kind, at, values, 0)
	trust.Together(r.kind, at, values)
	same(t, "the places", at[:4], api.OK, []int{9, 3, 4, 77})
	same(t, "the values", values[:4], api.OK, kept)
}
