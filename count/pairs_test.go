package count_test

import (
	"fmt"
	"math/rand/v2"
	"slices"
	"testing"

	"hustings/api"
	"hustings/count"
)

func TestK3Words(t *testing.T) {
	c := contestOf(api.RulePairs, 3, 1)
	cases := []struct {
		ballots [][]int
		want    [][]int
	}{
		{nil, [][]int{{0, 0, 0}, {0, 0, 0}, {0, 0, 0}}},
		{[][]int{{1, 2, 3}}, [][]int{{0, 1, 1}, {0, 0, 1}, {0, 0, 0}}},
		{[][]int{{0, 1, 0}}, [][]int{{0, 0, 0}, {1, 0, 1}, {0, 0, 0}}}, // of those who have no rank none is ahead
		{[][]int{{2, 1, 0}}, [][]int{{0, 0, 1}, {1, 0, 1}, {0, 0, 0}}},
		{[][]int{{2, 1, 0}, {1, 2, 3}, {1, 1, 0}, {0, 0, 0}, {0, 2, 0}}, [][]int{{0, 1, 2}, {1, 0, 2}, {0, 0, 0}}},
		{times(4096, 3, 2, 1), [][]int{{0, 0, 0}, {4096, 0, 0}, {4096, 4096, 0}}},
	}
	for _, k := range cases {
		got, e := count.Pairs(c, k.ballots)
		same(t, short(k.ballots), got, e, k.want)
	}
}

func TestK3Random(t *testing.T) {
	d := dice()
	for range 1000 {
		c := anyContest(d, 12) // whatever its rule
		ballots := anyBallots(d, len(c.Options), d.IntN(40))
		got, e := count.Pairs(c, ballots)
		same(t, shown(c)+shown(ballots), got, e, pairsModel(c, ballots))
	}
}

// anyPairs are numbers below some bound, so that some are alike.
func anyPairs(d *rand.Rand, n, below int) [][]int {
	out := make([][]int, n)
	for i := range out {
		for range n {
			out[i] = append(out[i], d.IntN(below))
		}
	}
	return out
}

func TestK4PathsWords(t *testing.T) {
	cases := []struct{ pairs, want [][]int }{
		{[][]int{{0}}, [][]int{{0}}},
		{[][]int{{99}}, [][]int{{0}}},
		{[][]int{{0, 3}, {2, 0}}, [][]int{{0, 3}, {0, 0}}},
		{[][]int{{0, 3}, {3, 0}}, [][]int{{0, 0}, {0, 0}}},
		{[][]int{{5, 3}, {2, 7}}, [][]int{{0, 3}, {0, 0}}}, // nobody beats themselves
		{ // a ring: each beats the next
			[][]int{{0, 9, 1}, {2, 0, 8}, {7, 3, 0}},
			[][]int{{0, 9, 8}, {7, 0, 8}, {7, 7, 0}},
		},
		{ // the way round is stronger than the straight one
			[][]int{{0, 9, 5}, {2, 0, 8}, {4, 3, 0}},
			[][]int{{0, 9, 8}, {0, 0, 8}, {0, 0, 0}},
		},
		{[][]int{{0, 1 << 40}, {0, 0}}, [][]int{{0, 1 << 40}, {0, 0}}},
	}
	for _, k := range cases {
		got, e := count.Paths(k.pairs)
		same(t, shown(k.pairs), got, e, k.want)
		same(t, shown(k.pairs)+" by the model", pathsModel(k.pairs), api.OK, k.want)
	}
}

// TestK4PathsRandom: all ways, of few options.
func TestK4PathsRandom(t *testing.T) {
	d := dice()
	for k := range 1500 {
		pairs := anyPairs(d, 1+d.IntN(6), []int{2, 4, 20, 1<<40 + 1}[k%4])
		got, e := count.Paths(pairs)
		same(t, shown(pairs), got, e, pathsModel(pairs))
	}
}

// TestK4PathsOfMany: the strength is at least s just if there is a way of steps that are.
func TestK4PathsOfMany(t *testing.T) {
	d := dice()
	for k := range 200 {
		pairs := anyPairs(d, 7+d.IntN(6), []int{3, 8, 30}[k%3])
		got, e := count.Paths(pairs)
		want := make([][]int, len(pairs))
		for i := range pairs {
			want[i] = make([]int, len(pairs))
			for strength := 1; strength < 30; strength++ {
				for _, j := range reached(pairs, i, strength) {
					if j != i {
						want[i][j] = strength
					}
				}
			}
		}
		same(t, shown(pairs), got, e, want)
	}
}

// reached are all to whom steps of some strength lead.
func reached(pairs [][]int, from, strength int) []int {
	out := []int{from}
	for at := 0; at < len(out); at++ {
		a := out[at]
		for b := range pairs {
			if pairs[a][b] >= strength && pairs[a][b] > pairs[b][a] && !slices.Contains(out, b) {
				out = append(out, b)
			}
		}
	}
	return out
}

func TestK4SmithWords(t *testing.T) {
	cases := []struct {
		pairs [][]int
		want  []int
	}{
		{[][]int{{0}}, []int{0}},
		{[][]int{{0, 3}, {2, 0}}, []int{0}},
		{[][]int{{0, 2}, {3, 0}}, []int{1}},
		{[][]int{{0, 2}, {2, 0}}, []int{0, 1}}, // who does not beat the other can't be without them
		{[][]int{{0, 9, 1}, {2, 0, 8}, {7, 3, 0}}, []int{0, 1, 2}},
		{[][]int{{0, 5, 2, 4}, {2, 0, 6, 4}, {5, 1, 0, 4}, {0, 0, 0, 0}}, []int{0, 1, 2}},
		{[][]int{{0, 0, 0, 0}, {4, 0, 5, 2}, {4, 2, 0, 6}, {4, 5, 1, 0}}, []int{1, 2, 3}},
		{[][]int{{0, 1, 1}, {1, 0, 2}, {1, 1, 0}}, []int{0, 1, 2}}, // 1 beats 2, but 0 beats neither
		{[][]int{{0, 0, 0}, {0, 0, 0}, {0, 0, 0}}, []int{0, 1, 2}},
	}
	for _, k := range cases {
		got, e := count.Smith(k.pairs)
		same(t, shown(k.pairs), got, e, k.want)
	}
}

func TestK4SmithRandom(t *testing.T) {
	d := dice()
	sizes := map[int]int{}
	for k := range 1500 {
		pairs := anyPairs(d, 1+d.IntN(8), []int{2, 4, 20, 1<<40 + 1}[k%4])
		if k%3 == 0 { // some beat all others
			for i := range d.IntN(len(pairs)) {
				for j := i + 1; j < len(pairs); j++ {
					pairs[i][j] = pairs[j][i] + d.IntN(2)
				}
			}
			pairs = turned(pairs, d.Perm(len(pairs)))
			for i := range pairs {
				for j := range pairs {
					pairs[i][j] = min(pairs[i][j], 1<<40)
				}
			}
		}
		got, e := count.Smith(pairs)
		same(t, shown(pairs), got, e, smithModel(pairs))
		sizes[len(got)]++
	}
	if sizes[1] < 50 || sizes[2] < 50 || sizes[3] < 50 {
		t.Error("sets are nearly always of one size:", sizes)
	}
	for range 5 {
		pairs := anyPairs(d, 12, 40)
		got, e := count.Smith(pairs)
		same(t, shown(pairs), got, e, smithModel(pairs))
	}
}

// turned is the same pairs with the options in another order.
func turned(pairs [][]int, order []int) [][]int {
	out := make([][]int, len(pairs))
	for i := range pairs {
		for j := range pairs {
			out[i] = append(out[i], pairs[order[i]][order[j]])
		}
	}
	return out
}

func TestK3WrongPairs(t *testing.T) {
	square := func(n int) [][]int { return make2(n, n) }
	with := func(n, i, j, x int) [][]int {
		l := square(n)
		l[i][j] = x
		return l
	}
	cases := []struct {
		name  string
		pairs [][]int
		want  api.Errno
	}{
		{"nil", nil, api.ErrForm},
		{"none", [][]int{}, api.ErrForm},
		{"an empty one", [][]int{nil}, api.ErrForm},
		{"one", square(1), api.OK},
		{"twelve", square(12), api.OK},
		{"thirteen", square(13), api.ErrForm},
		{"many", square(500), api.ErrForm},
		{"too wide", make2(3, 4), api.ErrForm},
		{"too narrow", make2(3, 2), api.ErrForm},
		{"thirteen of twelve", make2(13, 12), api.ErrForm},
		{"the last one", append(square(3)[:2], []int{0, 0}), api.ErrForm},
		{"the first one", [][]int{{0, 0, 0}, {0, 0}}, api.ErrForm},
		{"a form behind a number", [][]int{{-1, -1}, {0}}, api.ErrForm},
		{"a number in thirteen", with(13, 0, 0, -1), api.ErrForm},
		{"2^40", with(3, 0, 1, 1<<40), api.OK},
		{"2^40 + 1", with(3, 0, 1, 1<<40+1), api.ErrRange},
		{"-1", with(3, 2, 1, -1), api.ErrRange},
		{"-1 of oneself", with(3, 2, 2, -1), api.ErrRange},
		{"2^40 + 1 of oneself", with(1, 0, 0, 1<<40+1), api.ErrRange},
		{"2^40 of oneself", with(1, 0, 0, 1<<40), api.OK},
		{"the least", with(2, 1, 0, least), api.ErrRange},
		{"the greatest", with(2, 1, 1, most), api.ErrRange},
	}
	for _, k := range cases {
		if got, e := count.Paths(k.pairs); k.want != api.OK || e != api.OK {
			fails(t, "Paths: "+k.name, got, e, k.want)
		}
		if got, e := count.Smith(k.pairs); k.want != api.OK || e != api.OK {
			fails(t, "Smith: "+k.name, got, e, k.want)
		}
	}
}

// make2 are so many lists of so many zeros.
func make2(n, each int) [][]int {
	out := make([][]int, n)
	for i := range out {
		out[i] = make([]int, each)
	}
	return out
}

// TestE2Pairs: what is handed in is only read, and what comes shares no memory with it, nor its lists with one another.
func TestE2Pairs(t *testing.T) {
	d := dice()
	was := anyPairs(d, 5, 9)
	pairs := roomy(was)
	for range 2 {
		paths, e := count.Paths(pairs)
		same(t, "Paths", paths, e, pathsModel(was))
		spoilRows(t, paths)
		set, e := count.Smith(pairs)
		same(t, "Smith", set, e, smithModel(was))
		spoil(set, -7)
		untouched(t, "Paths and Smith", pairs, was)
	}
	c := contestOf(api.RulePairs, 5, 1)
	given := anyBallots(d, 5, 20)
	ballots := roomy(given)
	for range 2 {
		got, e := count.Pairs(c, ballots)
		same(t, "Pairs", got, e, pairsModel(c, given))
		spoilRows(t, got)
		untouched(t, "Pairs", ballots, given)
	}
}

// spoilRows fills row by row, and looks whether those behind it stay as they are.
func spoilRows(t *testing.T, rows [][]int) {
	t.Helper()
	for i, row := range rows {
		rest := fmt.Sprint(rows[i+1:])
		spoil(row, -7)
		if fmt.Sprint(rows[i+1:]) != rest {
			t.Error("two lists share memory")
		}
	}
}
