package board_test

import (
	"math/rand/v2"
	"slices"
	"strings"
	"testing"

	"hustings/api"
	"hustings/board"
)

// life is a disk, and what must be on it.
type life struct {
	disk  *meanDisk
	sure  []string
	maybe []string // the entry whose Add was refused, if there is one
}

// open opens the ledger and looks whether nothing is lost; nil, if the disk refuses.
func (v *life) open(t *testing.T) *board.Ledger {
	t.Helper()
	l, e := board.Open(v.disk)
	if e == api.ErrPower && v.disk.off {
		return nil
	}
	if e != api.OK {
		t.Fatalf("Open: error %d", e)
	}
	found := told(t, l)
	if !slices.Equal(found, v.sure) && !slices.Equal(found, slices.Concat(v.sure, v.maybe)) {
		t.Fatalf("%q is found, not %q and perhaps %q", found, v.sure, v.maybe)
	}
	if l.Head() != headOf(found) {
		t.Fatal("the head is not that of what is found")
	}
	v.sure, v.maybe = found, nil
	return l
}

// add adds an entry; false, if the disk refuses.
func (v *life) add(t *testing.T, l *board.Ledger, entry string) bool {
	t.Helper()
	switch e := l.Add(entry); {
	case e == api.OK && !v.disk.off:
		v.sure = append(slices.Clone(v.sure), entry)
	case e == api.ErrPower && v.disk.off:
		v.maybe = []string{entry}
		return false
	case e != api.ErrFull || v.disk.off:
		t.Fatalf("Add: error %d", e)
	}
	return true
}

// run opens the ledger and adds entries till the disk refuses; true, if it never does.
func (v *life) run(t *testing.T, entries []string) bool {
	t.Helper()
	l := v.open(t)
	for _, it := range entries {
		if l == nil || !v.add(t, l, it) {
			return false
		}
	}
	return l != nil
}

// everywhere lets the power go at each call, and come back in each way, so many times.
func everywhere(t *testing.T, from life, entries [][]string) int {
	t.Helper()
	if len(entries) == 0 {
		last := from
		last.disk = from.disk.back(from.disk.ways()-1, -1)
		last.run(t, nil)
		return 1
	}
	n := 0
	for power := 0; ; power++ {
		v := from
		v.disk = from.disk.back(from.disk.ways()-1, power)
		done := v.run(t, entries[0])
		for way := range v.disk.ways() {
			next := v
			next.disk = v.disk.back(way, -1)
			n += everywhere(t, next, entries[1:])
		}
		if done {
			return n
		}
	}
}

func TestB5PowerOnce(t *testing.T) {
	for _, sizes := range [][]int{{0}, {60}, {61}, {3, 0, 0, 52, 0}, {10, 50, 200}, {124, 64, 60}, {0, 300, 1, 128}} {
		var entries []string
		for i, n := range sizes {
			entries = append(entries, strings.Repeat(string([]byte{byte('a' + i)}), n))
		}
		empty := life{disk: newMeanDisk(t, 12, -1)}
		if n := everywhere(t, empty, [][]string{entries, {"behind", strings.Repeat("z", 90)}}); n < 20 {
			t.Errorf("the power goes in %d ways only", n)
		}
	}
}

func TestB5PowerAgain(t *testing.T) {
	empty := life{disk: newMeanDisk(t, 8, -1)}
	n := everywhere(t, empty, [][]string{{strings.Repeat("a", 50), "b"}, {strings.Repeat("c", 70)}, {"", "d"}, {strings.Repeat("e", 9)}})
	if n < 1000 {
		t.Errorf("the power goes in %d ways only", n)
	}
}

// What an Open has found stays, even if nothing is added and the power goes right behind it.
func TestB5Found(t *testing.T) {
	for power := range 12 {
		v := life{disk: newMeanDisk(t, 5, power)}
		v.run(t, []string{"first", "second"})
		for way := range v.disk.ways() {
			once := v
			once.disk = v.disk.back(way, -1)
			once.open(t)
			for then := range once.disk.ways() {
				again := once
				again.disk = once.disk.back(then, -1)
				again.open(t)
			}
		}
	}
}

func TestB5PowerByLot(t *testing.T) {
	dice := dice()
	for range 40 {
		v := life{disk: newMeanDisk(t, 3+dice.IntN(40), -1)}
		for range 60 {
			power := dice.IntN(30)
			if dice.IntN(4) == 0 {
				power = -1
			}
			if v.disk.ways() > 1<<30 {
				v.disk = v.disk.back(v.disk.ways()-1, power)
			} else {
				v.disk = v.disk.byLot(dice, power)
			}
			v.run(t, entriesByLot(dice))
		}
		v.disk = v.disk.back(0, -1)
		v.run(t, nil)
	}
}

func entriesByLot(dice *rand.Rand) []string {
	out := make([]string, dice.IntN(4))
	for i := range out {
		out[i] = bytesOf(dice, dice.IntN(1+dice.IntN(200)))
	}
	return out
}
