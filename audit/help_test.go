package audit_test

import (
	"fmt"
	"math/rand/v2"
	"reflect"
	"slices"
	"strings"
	"testing"

	"hustings/api"
	"hustings/audit"
)

// The edges of int.
const (
	least = -1 << 63
	most  = 1<<63 - 1
)

// dice is a row of numbers that is the same each time.
func dice() *rand.Rand { return rand.New(rand.NewPCG(14, 1)) }

// frac is a fraction that is written as num/den, or as num alone.
func frac(text string) api.Frac {
	num, den, broken := strings.Cut(text, "/")
	if !broken {
		den = "1"
	}
	return api.Frac{Num: num, Den: den}
}

// fracs are fractions that are written behind one another.
func fracs(text string) []api.Frac {
	var out []api.Frac
	for _, s := range strings.Fields(text) {
		out = append(out, frac(s))
	}
	return out
}

func zeros(n int) string { return strings.Repeat("0", n) }

// A risk, and what is wrong with it.
type riskCase struct {
	risk api.Frac
	e    api.Errno
}

// risks are all kinds of them.
func risks() []riskCase {
	out := []riskCase{
		{frac("1"), api.OK}, {frac("1/10"), api.OK}, {frac("99/100"), api.OK},
		{frac("1/1" + zeros(99)), api.OK},
		{frac(strings.Repeat("9", 100) + "/1" + zeros(99)), api.ErrRange},
		{frac("1" + zeros(99) + "/" + strings.Repeat("9", 100)), api.OK},
		{frac("0"), api.ErrRange}, {frac("2"), api.ErrRange}, {frac("11/10"), api.ErrRange}, {frac("1" + zeros(99)), api.ErrRange},
		{frac("1/1" + zeros(100)), api.ErrForm}, {frac("1" + zeros(100)), api.ErrForm},
		{frac("1" + zeros(100) + "/" + strings.Repeat("9", 101)), api.ErrForm},
		{frac("1/1" + zeros(5000)), api.ErrForm},
		{frac("2/20"), api.ErrForm}, {frac("20/2"), api.ErrForm}, {frac("2/2"), api.ErrForm}, {frac("0/2"), api.ErrForm}, {frac("1/0"), api.ErrForm}, {frac("0/0"), api.ErrForm},
	}
	for _, s := range []string{"", "/", "1/", "/10", "01/10", "1/010", "-1/10", "1/-10", "+1/10", "1/10 ", " 1/10", "1.0/10", "a/10", "1/\x00", "1/1٠"} {
		out = append(out, riskCase{frac(s), api.ErrForm})
	}
	return append(out, riskCase{api.Frac{}, api.ErrForm}, riskCase{api.Frac{Num: "1"}, api.ErrForm})
}

// roomy is a list with spare room behind it.
func roomy[T any](l []T) []T { return append(make([]T, 0, len(l)+3), l...) }

// roomyWatch is a watch whose lists have spare room behind them.
func roomyWatch(w api.Watch) api.Watch {
	w.Winners, w.Losers = roomy(w.Winners), roomy(w.Losers)
	w.Shares, w.Odds = roomy(w.Shares), roomy(w.Odds)
	return w
}

// whole is a list with its spare room.
func whole[T any](l []T) []T { return l[:cap(l)] }

// wholeWatch is a watch with the spare room of its lists.
func wholeWatch(w api.Watch) api.Watch {
	w.Winners, w.Losers = whole(w.Winners), whole(w.Losers)
	w.Shares, w.Odds = whole(w.Shares), whole(w.Odds)
	return w
}

// spoil changes all that lists of a watch have, their spare room too.
func spoil(w api.Watch) {
	w = wholeWatch(w)
	for i := range w.Winners {
		w.Winners[i] = -9
	}
	for i := range w.Losers {
		w.Losers[i] = -9
	}
	for i := range w.Shares {
		w.Shares[i] = frac("9")
	}
	for i := range w.Odds {
		w.Odds[i] = frac("9/7")
	}
}

// clone is a watch in memory of its own.
func clone(w api.Watch) api.Watch {
	w.Winners, w.Losers = slices.Clone(w.Winners), slices.Clone(w.Losers)
	w.Shares, w.Odds = slices.Clone(w.Shares), slices.Clone(w.Odds)
	return w
}

// begun is a watch that nothing is wrong with.
func begun(t *testing.T, totals, winners []int, risk string) api.Watch {
	t.Helper()
	w, e := audit.Begin(totals, winners, frac(risk))
	if e != api.OK {
		t.Fatalf("error %d: %v, %v, %s", e, totals, winners, risk)
	}
	return w
}

// same tells where something else comes than should; lists without entries are alike.
func same[T any](t *testing.T, what string, got T, e api.Errno, want T) {
	t.Helper()
	if e != api.OK || shown(got) != shown(want) {
		t.Errorf("%s: %s comes, error %d, not %s", what, short(got), e, short(want))
	}
}

// fails tells where an error is another one, or something comes beside it.
func fails[T any](t *testing.T, what string, got T, e api.Errno, want api.Errno) {
	t.Helper()
	var none T
	if e != want || shown(got) != shown(none) {
		t.Errorf("%s: %s comes, error %d, not error %d", what, short(got), e, want)
	}
}

func alike(a, b any) bool { return reflect.DeepEqual(a, b) }

func shown(v any) string { return fmt.Sprintf("%+v", v) }

// short is a value as a message can show it.
func short(v any) string {
	s := shown(v)
	if len(s) > 600 {
		return s[:600] + ".."
	}
	return s
}
