package tally_test

import (
	"fmt"
	"slices"
	"testing"

	"hustings/api"
	"hustings/tally"
	"hustings/trust"
)

func TestY1Key(t *testing.T) {
	kinds(t, func(t *testing.T, r ring) {
		d := dice()
		sizes(func(need, of int) {
			a := r.anyTown(d, need, of)
			got, e := tally.Key(a.m)
			same(t, fmt.Sprint(need, " of ", of), got, e, a.key)
			want, wantE := keyModel(a.m)
			same(t, fmt.Sprint(need, " of ", of, ", by the model"), want, wantE, a.key)
		})
	})
}

// TestY1Edges: polynomials that are less than they might be, and numbers at the edge.
func TestY1Edges(t *testing.T) {
	kinds(t, func(t *testing.T, r ring) {
		zero, one := r.small(0), r.small(1)
		for _, l := range [][]string{
			{zero}, {one}, {r.last()}, {zero, zero}, {one, zero}, {zero, one}, {r.last(), r.last()}, {r.last(), zero, one},
			{zero, zero, zero, zero}, {one, zero, zero, r.last()},
		} {
			for of := len(l); of <= 8; of++ {
				a := r.dealt(of, l)
				got, e := tally.Key(a.m)
				same(t, short(l), got, e, a.key)
			}
		}
	})
}

// TestY1Settled: the key is that to which trustees come.
func TestY1Settled(t *testing.T) {
	kinds(t, func(t *testing.T, r ring) {
		var posts []api.Post
		for me := range 5 {
			trustee, _ := trust.NewTrustee(r.kind, 3, 5, me+1, fmt.Sprint("seed ", me))
			posts = append(posts, trustee.Offer())
		}
		settled, e := trust.Settle(r.kind, 3, 5, posts)
		m := r.townOf(3, nil).m
		m.Trustees = settled.Publics
		fails(t, "Settle", true, e, api.OK)
		got, e := tally.Key(m)
		same(t, "Key", got, e, settled.Key)
	})
}

// TestY1Other: one trustee, whichever it is, with another key than the others make of it.
func TestY1Other(t *testing.T) {
	kinds(t, func(t *testing.T, r ring) {
		d := dice()
		sizes(func(need, of int) {
			a := r.anyTown(d, need, of)
			for i := range of {
				m := cloneManifest(a.m)
				m.Trustees[i] = r.times(m.Trustees[i], r.small(2))
				got, e := tally.Key(m)
				name := fmt.Sprint("trustee ", i+1, ", ", need, " of ", of)
				if need < of {
					fails(t, name, got == "", e, api.ErrProof)
					continue
				}
				want, _ := keyModel(m) // there is just one choice
				same(t, name, got, e, want)
				holds(t, name+": another key comes", got != a.key, true)
			}
		})
	})
}

// TestY1Any: of any keys, and of those that lie on one polynomial but for some, as all choices say.
func TestY1Any(t *testing.T) {
	r, d := ringOf(api.Tiny), dice()
	told := map[api.Errno]int{}
	sizes(func(need, of int) {
		for try := range 20 {
			a := r.anyTown(d, need, of)
			for range try / 4 {
				a.m.Trustees[d.IntN(of)] = r.any(d)
			}
			if try == 19 {
				a.m.Trustees = r.anyOnes(d, of)
			}
			want, wantE := keyModel(a.m)
			got, e := tally.Key(a.m)
			agrees(t, fmt.Sprint(need, " of ", of), got, e, want, wantE)
			told[e]++
		}
	})
	if told[api.OK] < 100 || told[api.ErrProof] < 100 {
		t.Error("it is nearly always the same that comes:", told)
	}
}

// TestY1Halves: many choices give the same, but not all: two polynomials that meet at 0, each of some of the trustees.
func TestY1Halves(t *testing.T) {
	kinds(t, func(t *testing.T, r ring) {
		d := dice()
		sizes(func(need, of int) {
			if need == 1 || need == of {
				return
			}
			one := r.anyOnes(d, need)
			two := slices.Clone(one)
			two[1] = r.add(two[1], r.small(1))
			a, b := r.dealt(of, one), r.dealt(of, two)
			for from := 1; from < of; from++ {
				m := cloneManifest(a.m)
				copy(m.Trustees[from:], b.m.Trustees[from:])
				got, e := tally.Key(m)
				fails(t, fmt.Sprint(need, " of ", of, ", from ", from), got == "", e, api.ErrProof)
			}
		})
	})
}

// TestY1Higher: as many would be needed as one more: the polynomial has a coefficient too many.
func TestY1Higher(t *testing.T) {
	kinds(t, func(t *testing.T, r ring) {
		sizes(func(need, of int) {
			if need == of {
				return
			}
			a := r.anyTown(dice(), need+1, of)
			a.m.Need = need
			got, e := tally.Key(a.m)
			fails(t, fmt.Sprint(need, " of ", of), got == "", e, api.ErrProof)
			if need > 1 {
				a = r.anyTown(dice(), need-1, of) // one too few does no harm
				a.m.Need = need
				got, e = tally.Key(a.m)
				same(t, fmt.Sprint(need, " of ", of), got, e, a.key)
			}
		})
	})
}

// TestY1Wrong: what is wrong with a manifest is told, also where the keys do not fit.
func TestY1Wrong(t *testing.T) {
	kinds(t, func(t *testing.T, r ring) {
		whole := func(m *api.Manifest) *api.Manifest { return m }
		all := append(inManifest(r, 0, whole), fault[api.Manifest]{"keys", 1, api.ErrProof, func(m *api.Manifest) {
			m.Trustees = []string{r.small(2), r.small(2), r.small(3), r.small(4)}
		}})
		first := r.anyTown(dice(), 2, 4).m
		wrongOnes(all, func(name string, do func(*api.Manifest), want api.Errno) {
			t.Helper()
			m := cloneManifest(first)
			do(&m)
			got, e := tally.Key(m)
			fails(t, name, got == "", e, want)
		})
		got, e := tally.Key(api.Manifest{})
		fails(t, "no manifest", got == "", e, api.ErrKind)
	})
}

// TestE2Key: a manifest is only read.
func TestE2Key(t *testing.T) {
	r := ringOf(api.Short)
	a := r.anyTown(dice(), 3, 5)
	m := cloneManifest(a.m)
	got, e := tally.Key(m)
	same(t, "Key", got, e, a.key)
	manifestUntouched(t, m, a.m)
}

// manifestUntouched looks whether one with spare room behind its trustees is as it was.
func manifestUntouched(t *testing.T, m, was api.Manifest) {
	t.Helper()
	same(t, "the manifest", m, api.OK, was)
	same(t, "the room behind the trustees", m.Trustees[len(m.Trustees):cap(m.Trustees)], api.OK, make([]string, 5))
}
