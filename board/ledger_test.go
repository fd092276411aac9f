package board_test

import (
	"fmt"
	"slices"
	"strings"
	"testing"

	"hustings/api"
	"hustings/board"
	"hustings/plain"
)

func TestB5OpenWrong(t *testing.T) {
	l, e := board.Open(nil)
	fails(t, "no disk", l == nil, e, api.ErrForm)
	for _, size := range []int{0, 1, 2, -1, least} {
		l, e := board.Open(newMeanDisk(t, size, -1))
		fails(t, fmt.Sprint(size, " sectors"), l == nil, e, api.ErrForm)
		l, e = board.Open(newMeanDisk(t, size, 0))
		fails(t, fmt.Sprint(size, " sectors, without power"), l == nil, e, api.ErrForm)
	}
	l, e = board.Open(newMeanDisk(t, 3, 0))
	fails(t, "without power", l == nil, e, api.ErrPower)
}

func TestB5Zeros(t *testing.T) {
	for _, size := range []int{3, 4, 5, 1000} {
		l := opened(t, newMeanDisk(t, size, -1))
		if l.Len() != 0 || l.Head() != headModel(0, nil) {
			t.Errorf("on %d sectors of zeros %d entries lie", size, l.Len())
		}
	}
}

// sizesOf are lengths of entries, such that sectors are filled, not filled, and just filled.
func sizesOf() []int {
	return []int{0, 1, 59, 0, 60, 61, 124, 0, 128, 3, 64, 63, 62, 500, 0, 0, 40, 12}
}

func TestB5Again(t *testing.T) {
	d := newMeanDisk(t, 100, -1)
	var want []string
	for i, n := range sizesOf() {
		l := opened(t, d)
		same(t, "entries", told(t, l), api.OK, want)
		it := strings.Repeat(string([]byte{byte(i)}), n)
		want = append(want, it)
		same(t, "entries", told(t, added(t, l, it)), api.OK, want)
		// All that has been added is safe, in whatever way the power comes back.
		if d.ways() != 1 {
			t.Fatalf("an entry of %d bytes is not safe", n)
		}
		d = d.back(0, -1)
	}
	l := opened(t, d)
	same(t, "entries", told(t, l), api.OK, want)
	if l.Head() != headOf(want) {
		t.Error("the head is another one when they are read")
	}
}

// What lies on a disk may be whatever bytes entries may have.
func TestB5Bytes(t *testing.T) {
	dice := dice()
	for range 50 {
		d := plain.NewDisk(60, -1)
		l := opened(t, d)
		var want []string
		for range dice.IntN(12) {
			it := bytesOf(dice, dice.IntN(150))
			if dice.IntN(3) == 0 {
				it = strings.Repeat(string([]byte{byte(dice.IntN(2) * 255)}), len(it))
			}
			want = append(want, it)
			added(t, l, it)
		}
		same(t, "entries", told(t, opened(t, d.After(nil, -1))), api.OK, want)
	}
}

// On a disk may lie something else, of which nothing is promised but that nothing panics.
func TestE1SomethingElse(t *testing.T) {
	dice := dice()
	use := func(d *meanDisk) {
		l, e := board.Open(d)
		if e != api.OK {
			fails(t, "something else", l == nil, e, e)
			return
		}
		told(t, l)
		l.Head()
		l.Around(0, l.Len())
		l.Add("more")
		l.Add(strings.Repeat("m", 200))
	}
	full := newMeanDisk(t, 12, -1)
	added(t, opened(t, full), entriesOf(14)...)
	for range 3000 {
		d := full.back(0, -1)
		for range 1 + dice.IntN(3) {
			i := dice.IntN(12)
			b := []byte(d.at(i)[0])
			switch at := dice.IntN(api.Sector); dice.IntN(4) {
			case 0:
				b = []byte(bytesOf(dice, api.Sector))
			case 1:
				b[at] ^= 1 << dice.IntN(8)
			case 2:
				b = []byte(strings.Repeat("\xff", api.Sector))
			case 3:
				b[dice.IntN(8)] = byte(dice.IntN(256))
			}
			d.sectors[i] = []string{string(b)}
		}
		use(d)
	}
}

// What is easily seen not to be a ledger is not taken for one.
func TestE1NoLedger(t *testing.T) {
	for i := range api.Sector {
		d := newMeanDisk(t, 5, -1)
		d.sectors[0] = []string{strings.Repeat("\x00", i) + strings.Repeat("x", api.Sector-i)}
		l, e := board.Open(d)
		fails(t, fmt.Sprint("something else from byte ", i, " on"), l == nil, e, api.ErrForm)
	}
}

// A disk on which far too much is said to lie is not gone through.
func TestE1FarTooMuch(t *testing.T) {
	first := newMeanDisk(t, most, -1)
	added(t, opened(t, first), "it")
	for i, c := range []byte{0: 128, 1: 1, 2: 1, 3: 64, 4: 255} {
		d := first.back(0, -1)
		b := []byte(d.at(0)[0])
		b[i] = c
		d.sectors[0] = []string{string(b)}
		if i == 4 { // and far too much is said of one entry
			d.sectors[1] = []string{strings.Repeat("\x0f", api.Sector)}
		}
		if l, e := board.Open(d); e != api.OK {
			fails(t, "far too much", l == nil, e, e)
		}
		if d.calls > 3*api.MaxEntries {
			t.Fatalf("%d calls, with %d at %d", d.calls, c, i)
		}
	}
}

func TestB6Add(t *testing.T) {
	l := opened(t, newMeanDisk(t, 4000, -1))
	var want []string
	for i := range 150 {
		it := strings.Repeat(string([]byte{byte(i)}), i*7%300)
		want = append(want, it)
		added(t, l, it)
		same(t, "entries", told(t, l), api.OK, want)
	}
}

func TestB6Long(t *testing.T) {
	d := plain.NewDisk(2*api.MaxWire/api.Sector, -1)
	l := opened(t, d)
	long := strings.Repeat("l", api.MaxWire)
	if e := l.Add(long + "l"); e != api.ErrLong || l.Len() != 0 {
		t.Errorf("an entry that is too long: error %d, %d entries", e, l.Len())
	}
	want := []string{"", long, "last"}
	added(t, l, want...)
	if !slices.Equal(told(t, l), want) || !slices.Equal(told(t, opened(t, d)), want) {
		t.Error("a long entry is another one")
	}
	// Too long is told ahead of there being no room.
	l = opened(t, plain.NewDisk(3, -1))
	if e := l.Add(long + "l"); e != api.ErrLong {
		t.Errorf("an entry that is too long, and no room: error %d", e)
	}
	if e := l.Add(long); e != api.ErrFull {
		t.Errorf("an entry that is just not too long, and no room: error %d", e)
	}
}

func TestB6Full(t *testing.T) {
	for _, size := range []int{3, 4, 5, 9} {
		room := api.Sector * (size - 2)
		for first := range room - 3 {
			d := newMeanDisk(t, size, -1)
			l := added(t, opened(t, d), strings.Repeat("f", first))
			want := []string{strings.Repeat("f", first)}
			left := room - 4 - first
			full := func(n int) {
				t.Helper()
				calls := d.calls
				if e := l.Add(strings.Repeat("x", n)); e != api.ErrFull || d.calls != calls {
					t.Errorf("%d sectors, %d bytes in the first entry, then %d: error %d", size, first, n, e)
				}
				same(t, "entries", told(t, l), api.OK, want)
			}
			full(max(left-3, 0))
			full(room)
			if left >= 4 {
				want = append(want, strings.Repeat("x", left-4))
				added(t, l, want[1])
			}
			full(0)
			l = opened(t, d.back(0, -1))
			same(t, "entries read", told(t, l), api.OK, want)
			full(0)
		}
	}
}

func TestB6MaxEntries(t *testing.T) {
	d := plain.NewDisk(4*api.MaxEntries/api.Sector+2+20, -1)
	l := opened(t, d)
	for i := range api.MaxEntries {
		if e := l.Add(""); e != api.OK {
			t.Fatalf("entry %d: error %d", i, e)
		}
	}
	for _, l := range []*board.Ledger{l, opened(t, d)} {
		for _, it := range []string{"", "more"} {
			if e := l.Add(it); e != api.ErrFull || l.Len() != api.MaxEntries {
				t.Fatalf("one more: error %d, %d entries", e, l.Len())
			}
		}
		if l.Head() != headModel(api.MaxEntries, []string{digestOfEmpty(20)}) {
			t.Fatal("the head is another one")
		}
	}
}

// A disk may have more sectors than bytes can be counted.
func TestB6WideDisk(t *testing.T) {
	for _, size := range []int{1 << 34, 1 << 40, 1<<57 + 2, 1<<58 + 2, 1<<58 + 3, 1 << 62, most} {
		d := newMeanDisk(t, size, -1)
		l := added(t, opened(t, d), "a", strings.Repeat("b", 1000))
		same(t, "entries", told(t, l), api.OK, []string{"a", strings.Repeat("b", 1000)})
		same(t, "entries read", told(t, opened(t, d)), api.OK, []string{"a", strings.Repeat("b", 1000)})
	}
}

// The errors are told in their order when the disk has refused a call.
func TestB6Refused(t *testing.T) {
	for power := range 20 {
		d := newMeanDisk(t, 5, power)
		l, e := board.Open(d)
		for e == api.OK && l.Len() < 2 {
			e = l.Add(strings.Repeat("e", 61))
		}
		if e == api.OK {
			return
		}
		if e != api.ErrPower || (l == nil) == (power > 0) {
			t.Fatalf("power for %d calls: error %d", power, e)
		}
		if l == nil {
			continue
		}
		n, calls := l.Len(), d.calls
		for _, it := range []string{"", "it", strings.Repeat("f", 1000), strings.Repeat("l", api.MaxWire+1)} {
			if e := l.Add(it); e != api.ErrPower || l.Len() != n || d.calls != calls {
				t.Errorf("power for %d calls, %d bytes more: error %d, %d entries", power, len(it), e, l.Len())
			}
		}
	}
	t.Error("two entries need more calls than they should")
}

// Before the disk has refused a call, other errors are told first: it isn't asked.
func TestB6NotYetRefused(t *testing.T) {
	d := newMeanDisk(t, 3, -1)
	l := opened(t, d)
	d.left = 0
	if e := l.Add(strings.Repeat("l", api.MaxWire+1)); e != api.ErrLong {
		t.Errorf("too long: error %d", e)
	}
	if e := l.Add(strings.Repeat("f", 61)); e != api.ErrFull {
		t.Errorf("no room: error %d", e)
	}
	if e := l.Add(""); e != api.ErrPower || l.Len() != 0 {
		t.Errorf("no power: error %d", e)
	}
}

func TestB7Tell(t *testing.T) {
	d := newMeanDisk(t, 100, -1)
	l := opened(t, d)
	all := entriesOf(40)
	for n := range 41 {
		calls := d.calls
		if l.Len() != n || l.Head() != headOf(all[:n]) {
			t.Errorf("%d entries: Len or Head are others", n)
		}
		same(t, "entries", told(t, l), api.OK, all[:n])
		for lo := range n + 1 {
			for hi := lo; hi <= n; hi++ {
				before, inner, after, e := l.Around(lo, hi)
				want := around(all[:n], lo, hi)
				same(t, fmt.Sprint("before ", lo, hi), before, e, want[0])
				same(t, fmt.Sprint("inner ", lo, hi), inner, e, want[1])
				same(t, fmt.Sprint("after ", lo, hi), after, e, want[2])
				if !board.Meets(l.Head(), n, lo, hi, before, inner, after) {
					t.Errorf("%d to %d of %d does not meet", lo, hi, n)
				}
			}
		}
		wrongAsked(t, l)
		if d.calls != calls {
			t.Error("the disk is called by what only tells")
		}
		if n < 40 {
			added(t, l, all[n])
		}
	}
}

// wrongAsked asks for what is not there.
func wrongAsked(t *testing.T, l *board.Ledger) {
	t.Helper()
	for _, i := range []int{-1, l.Len(), l.Len() + 1, 1 << 32, least, most} {
		s, e := l.Entry(i)
		fails(t, fmt.Sprint("entry ", i), s == "", e, api.ErrRange)
	}
	for _, s := range wrongSpans(l.Len()) {
		before, inner, after, e := l.Around(s[0], s[1])
		fails(t, fmt.Sprint("around ", s), len(before)+len(inner)+len(after) == 0, e, api.ErrRange)
	}
}

func TestB7WithoutPower(t *testing.T) {
	all := entriesOf(12)
	for power := 1; power < 100; power++ {
		d := newMeanDisk(t, 40, power)
		l := opened(t, d)
		n := 0
		for n < 12 && l.Add(all[n]) == api.OK {
			n++
		}
		calls := d.calls
		same(t, "entries", told(t, l), api.OK, all[:n])
		before, inner, after, e := l.Around(n/3, n/2)
		if l.Len() != n || l.Head() != headOf(all[:n]) || e != api.OK || !board.Meets(l.Head(), n, n/3, n/2, before, inner, after) {
			t.Errorf("power for %d calls: the ledger does not go on telling", power)
		}
		wrongAsked(t, l)
		if d.calls != calls {
			t.Errorf("power for %d calls: the disk is called by what only tells", power)
		}
	}
}

func TestE1TwoLedgers(t *testing.T) {
	a, b := opened(t, newMeanDisk(t, 20, -1)), opened(t, newMeanDisk(t, 20, 9))
	var want []string
	for i, it := range entriesOf(10) {
		added(t, a, it)
		b.Add(fmt.Sprint("other", i))
		want = append(want, it)
		same(t, "entries", told(t, a), api.OK, want)
	}
	if b.Len() == 10 || a.Head() != headOf(want) {
		t.Error("two ledgers know of one another")
	}
}

func TestE2Around(t *testing.T) {
	all := entriesOf(23)
	l := added(t, opened(t, newMeanDisk(t, 100, -1)), all...)
	for range 2 {
		before, inner, after, e := l.Around(5, 14)
		for k, got := range [][]string{before, inner, after} {
			same(t, fmt.Sprint("list ", k), got, e, around(all, 5, 14)[k])
			got = got[:cap(got)]
			for i := range got {
				got[i] = "changed"
			}
		}
	}
	if added(t, l, "more").Head() != headOf(append(all, "more")) {
		t.Error("what was answered is kept")
	}
}
