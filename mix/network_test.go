package mix_test

import (
	"fmt"
	"math/bits"
	"slices"
	"testing"

	"hustings/api"
	"hustings/mix"
)

func TestM1Plan(t *testing.T) {
	written := [][]api.Gate{
		1: {},
		2: {{X: 0, Y: 1}},
		3: {{X: 0, Y: 1}, {X: 1, Y: 2}, {X: 0, Y: 1}},
		4: {{X: 0, Y: 1}, {X: 2, Y: 3}, {X: 0, Y: 2}, {X: 1, Y: 3}, {X: 0, Y: 1}},
		5: {{X: 0, Y: 1}, {X: 2, Y: 3}, {X: 0, Y: 2}, {X: 1, Y: 3}, {X: 3, Y: 4}, {X: 1, Y: 3}, {X: 0, Y: 1}, {X: 2, Y: 3}},
	}
	for n := 1; n < len(written); n++ {
		got, e := mix.Plan(n)
		same(t, fmt.Sprint("Plan of ", n), got, e, written[n])
	}
	many := 0 // of n wires there are as many gates as n numbers in a row have digits, in the base 2
	for n := 1; n <= 256; n++ {
		many += bits.Len(uint(n - 1))
		got, e := mix.Plan(n)
		same(t, fmt.Sprint("Plan of ", n), got, e, planModel(n))
		if len(got) != many {
			t.Errorf("Plan of %d has %d gates, not %d", n, len(got), many)
		}
	}
}

func TestM1PlanWrong(t *testing.T) {
	for _, n := range []int{0, -1, -256, 257, 512, 1 << 32, 1<<32 + 5, least, most} {
		got, e := mix.Plan(n)
		fails(t, fmt.Sprint("Plan of ", n), len(got) == 0, e, api.ErrRange)
		for _, crossed := range [][]bool{nil, {}, {true}, make([]bool, 1793)} {
			rows, e := mix.Run(n, crossed)
			fails(t, fmt.Sprint("Run of ", n), len(rows) == 0, e, api.ErrRange)
		}
	}
}

func TestM1Run(t *testing.T) {
	d := dice()
	for n := 1; n <= 256; n++ {
		gates := len(planModel(n))
		none, all := make([]bool, gates), slices.Repeat([]bool{true}, gates)
		for _, crossed := range [][]bool{none, all, anyCrossed(d, n), anyCrossed(d, n)} {
			got, e := mix.Run(n, crossed)
			same(t, fmt.Sprint("Run of ", n), got, e, runModel(n, crossed))
		}
	}
	got, e := mix.Run(3, []bool{true, true, false})
	same(t, "two in a row are crossed", got, e, []int{1, 2, 0})
	got, e = mix.Run(3, []bool{false, true, true})
	same(t, "the last two are crossed", got, e, []int{2, 0, 1})
	for _, none := range [][]bool{nil, {}} {
		got, e = mix.Run(1, none)
		same(t, "one row", got, e, []int{0})
	}
}

func TestM1RunWrong(t *testing.T) {
	for n := 1; n <= 256; n++ {
		gates := len(planModel(n))
		for _, k := range []int{0, gates - 1, gates + 1, 2 * gates, 5000} {
			if k < 0 || k == gates {
				continue
			}
			got, e := mix.Run(n, make([]bool, k))
			fails(t, fmt.Sprint("Run of ", n, " with ", k), len(got) == 0, e, api.ErrForm)
		}
	}
}

// routed looks whether Run answers an order to what Route tells of it.
func routed(t *testing.T, order []int) {
	t.Helper()
	before := slices.Clone(order)
	crossed, e := mix.Route(order)
	if e != api.OK || len(crossed) != len(planModel(len(order))) {
		t.Fatalf("Route of %v: %d gates, error %d", order, len(crossed), e)
	}
	same(t, "Route", runModel(len(order), crossed), e, before)
	got, e := mix.Run(len(order), crossed)
	same(t, "Run of Route", got, e, before)
	same(t, "the order", order, api.OK, before)
}

// orders tells all orders of n numbers.
func orders(n int, tell func([]int)) {
	order := make([]int, 0, n)
	var next func()
	next = func() {
		if len(order) == n {
			tell(order)
			return
		}
		for row := range n {
			if !slices.Contains(order, row) {
				order = append(order, row)
				next()
				order = order[:len(order)-1]
			}
		}
	}
	next()
}

func TestM2AllOrders(t *testing.T) {
	for n := 1; n <= 8; n++ {
		orders(n, func(order []int) { routed(t, order) })
	}
}

func TestM2AnyOrder(t *testing.T) {
	d := dice()
	for n := 1; n <= 256; n++ {
		straight := make([]int, n)
		for i := range straight {
			straight[i] = i
		}
		back := slices.Clone(straight)
		slices.Reverse(back)
		routed(t, straight)
		routed(t, back)
		routed(t, append(straight[1:n:n], straight[0]))
		routed(t, append([]int{n - 1}, straight[:n-1]...))
		for range 5 {
			routed(t, d.Perm(n))
		}
	}
}

func TestM2Wrong(t *testing.T) {
	wrong := func(what string, order []int, want api.Errno) {
		t.Helper()
		got, e := mix.Route(order)
		fails(t, what, len(got) == 0, e, want)
	}
	wrong("nil", nil, api.ErrRange)
	wrong("none", []int{}, api.ErrRange)
	wrong("too many", dice().Perm(257), api.ErrRange)
	wrong("too many, and all the same", make([]int, 257), api.ErrRange)
	wrong("very many", make([]int, 1<<20), api.ErrRange)
	for _, bad := range []int{-1, 1, least, most, 1 << 32} {
		wrong("one", []int{bad}, api.ErrForm)
	}
	for _, n := range []int{2, 3, 4, 5, 8, 17, 255, 256} {
		for place := range n {
			order := dice().Perm(n)
			right := order[place]
			for _, bad := range []int{-1, n, n + 1, 256, 257, least, most, right - n, right + 1<<32, order[(place+1)%n]} {
				if bad == right {
					continue
				}
				order[place] = bad
				wrong(fmt.Sprint(bad, " of ", n), order, api.ErrForm)
			}
		}
	}
}
