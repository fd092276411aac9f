package board_test

import (
	"math/rand/v2"
	"reflect"
	"strconv"
	"strings"
	"testing"

	"hustings/api"
	"hustings/board"
)

// The edges of int.
const (
	least = -1 << 63
	most  = 1<<63 - 1
)

// dice is a row of numbers that is the same each time.
func dice() *rand.Rand { return rand.New(rand.NewPCG(7, 1)) }

// bytesOf are so many bytes, any.
func bytesOf(dice *rand.Rand, n int) string {
	b := make([]byte, n)
	for i := range b {
		b[i] = byte(dice.IntN(256))
	}
	return string(b)
}

// digestsOf are so many texts that may be digests.
func digestsOf(dice *rand.Rand, n int) []string {
	out := make([]string, n)
	for i := range out {
		out[i] = bytesOf(dice, 32)
	}
	return out
}

// entriesOf are so many entries, each another one, some of them long or empty.
func entriesOf(n int) []string {
	out := make([]string, n)
	for i := range out {
		out[i] = strings.Repeat(strconv.Itoa(i), i*i%23)
	}
	return out
}

// same tells where something else comes than should. nil and an empty list are the same.
func same[T any](t *testing.T, what string, got T, e api.Errno, want T) {
	t.Helper()
	g, w := reflect.ValueOf(got), reflect.ValueOf(want)
	if g.Kind() == reflect.Slice && g.Len() == 0 && w.Len() == 0 && e == api.OK {
		return
	}
	if e != api.OK || !reflect.DeepEqual(got, want) {
		t.Errorf("%s: %x comes, error %d, not %x", what, any(got), e, any(want))
	}
}

// fails tells where an error is another one, or something comes beside it.
func fails(t *testing.T, what string, nothing bool, e api.Errno, want api.Errno) {
	t.Helper()
	if !nothing || e != want {
		t.Errorf("%s: error %d comes, not %d (nothing beside it: %t)", what, e, want, nothing)
	}
}

// wrongSpans are no spans of the first size entries.
func wrongSpans(size int) [][2]int {
	return [][2]int{{-1, 0}, {-1, size}, {0, size + 1}, {size + 1, size + 1}, {size + 1, size}, {1, 0}, {size, size - 1}, {-2, -1}, {0, most}, {most, most}, {least, most}, {least, least}, {0, least}, {most, least}, {0, 1 << 32}, {1 << 32, 1 << 32}}
}

// opened is a ledger on a disk, and it must be one.
func opened(t *testing.T, d api.Disk) *board.Ledger {
	t.Helper()
	l, e := board.Open(d)
	if e != api.OK || l == nil {
		t.Fatalf("Open: error %d", e)
	}
	return l
}

// added is a ledger with more entries.
func added(t *testing.T, l *board.Ledger, entries ...string) *board.Ledger {
	t.Helper()
	for _, it := range entries {
		if e := l.Add(it); e != api.OK {
			t.Fatalf("Add of %d bytes: error %d", len(it), e)
		}
	}
	return l
}

// told are the entries that a ledger tells.
func told(t *testing.T, l *board.Ledger) []string {
	t.Helper()
	var out []string
	for i := range l.Len() {
		s, e := l.Entry(i)
		if e != api.OK {
			t.Fatalf("entry %d of %d: error %d", i, l.Len(), e)
		}
		out = append(out, s)
	}
	return out
}
