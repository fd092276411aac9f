package mix_test

import (
	"fmt"
	"slices"
	"strings"
	"testing"

	"hustings/api"
	"hustings/ballot"
	"hustings/group"
	"hustings/mix"
)

// mixArgs is what Mix is handed.
type mixArgs struct {
	kind       int
	key, label string
	rows       [][]api.Cipher
	crossed    []bool
	seed       string
}

func (a mixArgs) mix() (api.Mixed, api.Errno) {
	return mix.Mix(a.kind, a.key, a.label, a.rows, a.crossed, a.seed)
}

func TestM4Mix(t *testing.T) {
	kinds(t, func(t *testing.T, r ring) {
		d := dice()
		texts := []string{"", "label", "\x00\xff", strings.Repeat("long", 100)}
		check := func(key string, n, size int) {
			t.Helper()
			a := mixArgs{r.kind, key, texts[d.IntN(4)], r.anyRows(d, n, size), anyCrossed(d, n), texts[d.IntN(4)]}
			got, e := a.mix()
			same(t, fmt.Sprint(n, " rows of ", size), got, e, r.seededMix(a.key, a.label, a.rows, a.crossed, a.seed))
		}
		for n := 1; n <= 6; n++ {
			for _, size := range []int{1, 2, 3} {
				check(r.any(d), n, size)
			}
		}
		check(r.any(d), 2, 12)
		check(r.any(d), 3, 11)
		check(r.any(d), 9, 2)
		for _, key := range []string{r.small(1), r.small(2), r.text(r.order)} {
			check(key, 3, 2)
		}
	})
}

// TestM4Same: rows that are alike, so that both sets hold, and elements at the edge.
func TestM4Same(t *testing.T) {
	kinds(t, func(t *testing.T, r ring) {
		for _, c := range []api.Cipher{{A: r.small(1), B: r.small(1)}, {A: r.text(r.order), B: r.small(1)}, {A: r.small(2), B: r.text(r.order)}} {
			row := []api.Cipher{c, c}
			rows := [][]api.Cipher{row, row, row, row}
			for _, crossed := range [][]bool{make([]bool, 5), {true, true, true, true, true}, {true, false, true, false, true}} {
				a := mixArgs{r.kind, r.public(), "label", rows, crossed, "seed"}
				got, e := a.mix()
				same(t, "Mix", got, e, r.seededMix(a.key, a.label, a.rows, a.crossed, a.seed))
				tells(t, "Check", mix.Check(a.kind, a.key, a.label, a.rows, got), api.OK)
			}
		}
	})
}

// TestM4One: of one row nothing can be done with, it comes out as it is.
func TestM4One(t *testing.T) {
	kinds(t, func(t *testing.T, r ring) {
		rows := r.anyRows(dice(), 1, 12)
		for _, none := range [][]bool{nil, {}} {
			got, e := mix.Mix(r.kind, r.public(), "label", rows, none, "seed")
			same(t, "one row", got, e, api.Mixed{Out: rows})
			tells(t, "Check", mix.Check(r.kind, r.public(), "label", rows, got), api.OK)
		}
	})
}

// hides tells what rows hide, by the numbers that they are of.
func (r ring) hides(t *testing.T, rows [][]api.Cipher) [][]int {
	t.Helper()
	out := make([][]int, len(rows))
	for i, row := range rows {
		for _, c := range row {
			shown, _ := ballot.Decrypt(r.kind, r.secret(), c)
			x, e := group.Log(r.kind, shown, 12*len(rows))
			tells(t, "a number comes", e, api.OK)
			out[i] = append(out[i], x)
		}
	}
	return out
}

// TestM4Order: the rows come out whole, in the order that Run tells, and look like none that went in.
func TestM4Order(t *testing.T) {
	kinds(t, func(t *testing.T, r ring) {
		d := dice()
		for _, n := range []int{1, 2, 3, 4, 5, 6, 7, 12} {
			rows := r.hidden(d, n, 3)
			before := r.hides(t, rows)
			order := d.Perm(n)
			crossed, _ := mix.Route(order)
			m, e := mix.Mix(r.kind, r.public(), "label", rows, crossed, "seed")
			tells(t, "Mix", e, api.OK)
			var want [][]int
			for _, row := range order {
				want = append(want, before[row])
			}
			same(t, "what came out", r.hides(t, m.Out), e, want)
			tells(t, "Check", mix.Check(r.kind, r.public(), "label", rows, m), api.OK)
			if r.kind == api.Tiny || n == 1 {
				continue
			}
			for _, row := range m.Out {
				for _, c := range row {
					if slices.ContainsFunc(rows, func(in []api.Cipher) bool { return slices.Contains(in, c) }) {
						t.Error("a cipher came out as it went in")
					}
				}
			}
		}
	})
}

// TestM4Many: as many rows as may be, and as many ciphers in a row.
func TestM4Many(t *testing.T) {
	r, d := ringOf(api.Tiny), dice()
	for _, n := range []int{255, 256} {
		a := mixArgs{r.kind, r.public(), "label", r.anyRows(d, n, 1), anyCrossed(d, n), "seed"}
		got, e := a.mix()
		same(t, fmt.Sprint(n, " rows"), got, e, r.seededMix(a.key, a.label, a.rows, a.crossed, a.seed))
		tells(t, "Check", mix.Check(a.kind, a.key, a.label, a.rows, got), api.OK)
	}
	a := mixArgs{r.kind, r.public(), "label", r.anyRows(d, 20, 12), anyCrossed(d, 20), "seed"}
	got, e := a.mix()
	same(t, "rows of 12", got, e, r.seededMix(a.key, a.label, a.rows, a.crossed, a.seed))
	tells(t, "Check", mix.Check(a.kind, a.key, a.label, a.rows, got), api.OK)
}

// The order in which it is told what is wrong.
const (
	wrongKind = iota
	wrongKey
	wrongLong
	wrongRows
	wrongElem
	wrongForm // crossed, pairs, proofs
	wrongPairs
	wrongOut
	wrongProof
)

// fault is something that is wrong with what is handed in.
type fault[T any] struct {
	name string
	rank int
	e    api.Errno
	do   func(a *T)
}

// argsFaults are those of kind, key and rows: at finds these in what is handed in. Rows are there to be changed.
func argsFaults[T any](r ring, at func(a *T) (kind *int, key *string, rows *[][]api.Cipher)) []fault[T] {
	var out []fault[T]
	add := func(name string, rank int, e api.Errno, do func(kind *int, key *string, rows *[][]api.Cipher)) {
		out = append(out, fault[T]{name, rank, e, func(a *T) { do(at(a)) }})
	}
	addRows := func(name string, rank int, e api.Errno, do func(rows *[][]api.Cipher)) {
		add(name, rank, e, func(_ *int, _ *string, rows *[][]api.Cipher) { do(rows) })
	}
	for _, none := range noKinds() {
		add(fmt.Sprint("kind ", none), wrongKind, api.ErrKind, func(kind *int, _ *string, _ *[][]api.Cipher) { *kind = none })
	}
	for _, none := range r.noElems() {
		add("key", wrongKey, api.ErrElem, func(_ *int, key *string, _ *[][]api.Cipher) { *key = none })
	}
	cipher := api.Cipher{A: r.small(5), B: r.small(6)}
	addRows("257 rows", wrongLong, api.ErrLong, func(rows *[][]api.Cipher) { *rows = slices.Repeat([][]api.Cipher{{cipher}}, 257) })
	addRows("257 rows of nothing", wrongLong, api.ErrLong, func(rows *[][]api.Cipher) { *rows = make([][]api.Cipher, 257) })
	addRows("13 in all rows", wrongLong, api.ErrLong, func(rows *[][]api.Cipher) {
		*rows = slices.Repeat([][]api.Cipher{make([]api.Cipher, 13)}, 5)
	})
	addRows("none", wrongRows, api.ErrForm, func(rows *[][]api.Cipher) { *rows = nil })
	addRows("an empty list", wrongRows, api.ErrForm, func(rows *[][]api.Cipher) { *rows = [][]api.Cipher{} })
	addRows("all empty", wrongRows, api.ErrForm, func(rows *[][]api.Cipher) { *rows = make([][]api.Cipher, 5) })
	addRows("one empty row", wrongRows, api.ErrForm, func(rows *[][]api.Cipher) { *rows = [][]api.Cipher{{}} })
	for i := range 5 {
		row := func(rows *[][]api.Cipher) *[]api.Cipher { return &(*rows)[i%len(*rows)] }
		long := func(n int) func(rows *[][]api.Cipher) {
			return func(rows *[][]api.Cipher) {
				growTo(rows, 5)
				*row(rows) = slices.Repeat([]api.Cipher{cipher}, n)
			}
		}
		addRows("13 in a row", wrongLong, api.ErrLong, long(13))
		addRows("very many in a row", wrongLong, api.ErrLong, long(1<<16))
		addRows("an empty row", wrongRows, api.ErrForm, func(rows *[][]api.Cipher) { *row(rows) = nil })
		addRows("one less", wrongRows, api.ErrForm, func(rows *[][]api.Cipher) { *row(rows) = (*row(rows))[1:] })
		addRows("one more", wrongRows, api.ErrForm, func(rows *[][]api.Cipher) { *row(rows) = append(*row(rows), cipher) })
		for j := range 2 {
			for _, none := range r.noElems() {
				addRows("A", wrongElem, api.ErrElem, func(rows *[][]api.Cipher) { (*row(rows))[j].A = none })
				addRows("B", wrongElem, api.ErrElem, func(rows *[][]api.Cipher) { (*row(rows))[j].B = none })
			}
		}
	}
	return out
}

// growTo lays rows of nothing behind others, where they are fewer.
func growTo(rows *[][]api.Cipher, n int) {
	for len(*rows) < n {
		*rows = append(*rows, nil)
	}
}

// wrongOnes hands out each fault by itself, and some of two together, with the errno that is to be told. What lies deeper is
// done first: where it is not there any more, it cannot be done.
func wrongOnes[T any](all []fault[T], tries int, tell func(name string, do func(a *T), e api.Errno)) {
	for _, f := range all {
		tell(f.name, f.do, f.e)
	}
	d := dice()
	for range tries {
		a, b := all[d.IntN(len(all))], all[d.IntN(len(all))]
		if a.rank > b.rank {
			a, b = b, a
		}
		if a.rank != b.rank { // else one may undo what the other does
			tell(a.name+", "+b.name, func(x *T) { b.do(x); a.do(x) }, a.e)
		}
	}
}

// TestM3Mix: what is wrong with the rows, and M4: with all else that Mix is handed.
func TestM3Mix(t *testing.T) {
	r := ringOf(api.Short)
	first := mixArgs{r.kind, r.public(), "label", r.anyRows(dice(), 5, 2), anyCrossed(dice(), 5), "seed"}
	all := argsFaults(r, func(a *mixArgs) (*int, *string, *[][]api.Cipher) { return &a.kind, &a.key, &a.rows })
	for _, crossed := range [][]bool{nil, {}, {true}, make([]bool, 7), make([]bool, 9), make([]bool, 1<<16)} {
		all = append(all, fault[mixArgs]{"crossed", wrongForm, api.ErrForm, func(a *mixArgs) { a.crossed = crossed }})
	}
	wrongOnes(all, 4000, func(name string, do func(*mixArgs), want api.Errno) {
		t.Helper()
		a := first
		a.rows = cloneRows(first.rows)
		do(&a)
		got, e := a.mix()
		fails(t, name, noMix(got), e, want)
	})
}

// TestM3One: one row alone can be wrong too.
func TestM3One(t *testing.T) {
	kinds(t, func(t *testing.T, r ring) {
		good := api.Cipher{A: r.small(5), B: r.small(6)}
		for n, want := range map[int]api.Errno{0: api.ErrForm, 1: api.OK, 12: api.OK, 13: api.ErrLong} {
			rows := [][]api.Cipher{slices.Repeat([]api.Cipher{good}, n)}
			got, e := mix.Mix(r.kind, r.public(), "", rows, nil, "")
			fails(t, fmt.Sprint(n, " in a row"), e == api.OK || noMix(got), e, want)
			tells(t, fmt.Sprint(n, " in a row"), mix.Check(r.kind, r.public(), "", rows, api.Mixed{Out: rows}), want)
		}
		for _, none := range r.noElems() {
			for _, c := range []api.Cipher{{A: none, B: good.B}, {A: good.A, B: none}} {
				rows := [][]api.Cipher{{good, c}}
				got, e := mix.Mix(r.kind, r.public(), "", rows, nil, "")
				fails(t, "no element", noMix(got), e, api.ErrElem)
				tells(t, "no element", mix.Check(r.kind, r.public(), "", rows, api.Mixed{Out: rows}), api.ErrElem)
			}
		}
	})
}

// TestE2Mix: what is handed in is only read, and what is answered is new memory.
func TestE2Mix(t *testing.T) {
	r := ringOf(api.Short)
	for n := 1; n <= 5; n++ {
		rows, crossed := r.anyRows(dice(), n, 2), anyCrossed(dice(), n)
		in, gates := cloneRows(rows), roomy(crossed)
		m, e := mix.Mix(r.kind, r.public(), "label", in, gates, "seed")
		tells(t, "Mix", e, api.OK)
		untouched(t, rows, in)
		same(t, "crossed", gates, api.OK, crossed)
		same(t, "the room behind crossed", gates[len(gates):cap(gates)], api.OK, make([]bool, 5))
		want := clone(m)
		spoil(in)
		same(t, "what came, when the rows have changed", m, api.OK, want)
		eachAlone(t, m)
	}
}

// untouched looks whether rows, with spare room behind them, are as they were.
func untouched(t *testing.T, rows, in [][]api.Cipher) {
	t.Helper()
	same(t, "the rows", in, api.OK, rows)
	for _, row := range in[:cap(in)][len(in):] {
		same(t, "the room behind the rows", row, api.OK, nil)
	}
	for _, row := range in {
		for _, c := range row[:cap(row)][len(row):] {
			same(t, "the room behind a row", c, api.OK, api.Cipher{})
		}
	}
}

// spoil changes all of rows, and the spare room behind them.
func spoil(rows [][]api.Cipher) {
	for _, row := range rows {
		row = row[:cap(row)]
		for j := range row {
			row[j] = api.Cipher{A: "spoiled", B: "spoiled"}
		}
	}
}

// eachAlone looks whether a list of a mix changes when another one, and its spare room, does.
func eachAlone(t *testing.T, m api.Mixed) {
	t.Helper()
	whole := clone(m)
	var lists [][]api.Cipher
	var wants [][]api.Cipher
	for i, p := range m.Pairs {
		lists = append(lists, p[0], p[1])
		wants = append(wants, whole.Pairs[i][0], whole.Pairs[i][1])
	}
	for i, row := range m.Out {
		lists, wants = append(lists, row), append(wants, whole.Out[i])
	}
	for i, l := range lists {
		same(t, "a list, when others have changed", l, api.OK, wants[i])
		spoil([][]api.Cipher{l})
	}
	same(t, "the proofs", m.Proofs, api.OK, whole.Proofs)
}

// TestE2Network: answers of Plan, Run and Route are new memory each time.
func TestE2Network(t *testing.T) {
	for n := 1; n <= 9; n++ {
		gates, _ := mix.Plan(n)
		crossed := anyCrossed(dice(), n)
		kept := roomy(crossed)
		order, _ := mix.Run(n, kept)
		route, _ := mix.Route(order)
		clear(gates[:cap(gates)])
		again, e := mix.Plan(n)
		same(t, "Plan", again, e, planModel(n))
		same(t, "crossed", kept, api.OK, crossed)
		same(t, "the room behind crossed", kept[len(kept):cap(kept)], api.OK, make([]bool, 5))
		in := roomy(order)
		route2, _ := mix.Route(in)
		same(t, "the order", in, api.OK, order)
		same(t, "the room behind the order", in[len(in):cap(in)], api.OK, make([]int, 5))
		same(t, "Route, once more", route2, api.OK, route)
	}
}
