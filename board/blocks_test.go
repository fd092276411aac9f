package board_test

import (
	"fmt"
	"slices"
	"strings"
	"testing"

	"hustings/api"
	"hustings/board"
)

func TestB1Cover(t *testing.T) {
	got, e := board.Cover(3, 21)
	same(t, "3 to 21", got, e, []api.Span{{Lo: 3, Hi: 4}, {Lo: 4, Hi: 8}, {Lo: 8, Hi: 16}, {Lo: 16, Hi: 20}, {Lo: 20, Hi: 21}})
	for lo := range 70 {
		for hi := lo; hi < 70; hi++ {
			got, e := board.Cover(lo, hi)
			same(t, fmt.Sprint(lo, " to ", hi), got, e, coverModel(lo, hi))
		}
	}
}

func TestB1CoverMost(t *testing.T) {
	got, e := board.Cover(0, api.MaxEntries)
	same(t, "all", got, e, []api.Span{{Lo: 0, Hi: api.MaxEntries}})
	got, e = board.Cover(api.MaxEntries, api.MaxEntries)
	same(t, "none at the end", got, e, nil)
	d := dice()
	for _, lo := range []int{0, 1, 2, api.MaxEntries / 2, api.MaxEntries/2 - 1, api.MaxEntries - 1, d.IntN(api.MaxEntries)} {
		for _, hi := range []int{api.MaxEntries, api.MaxEntries - 1, lo + d.IntN(api.MaxEntries-lo)} {
			got, e := board.Cover(lo, hi)
			same(t, fmt.Sprint(lo, " to ", hi), got, e, coverModel(lo, hi))
		}
	}
}

func TestB1CoverWrong(t *testing.T) {
	for _, s := range append(wrongSpans(api.MaxEntries), [2]int{5, 4}) {
		got, e := board.Cover(s[0], s[1])
		fails(t, fmt.Sprint(s), len(got) == 0, e, api.ErrRange)
	}
}

func TestB1Blocks(t *testing.T) {
	all := entriesOf(37)
	for lo := range 38 {
		for hi := lo; hi < 38; hi++ {
			got, e := board.Blocks(all, lo, hi)
			same(t, fmt.Sprint(lo, " to ", hi), got, e, blocksModel(all, lo, hi))
		}
	}
	got, e := board.Blocks(nil, 0, 0)
	same(t, "of no entries", got, e, nil)
	got, e = board.Blocks([]string{}, 0, 0)
	same(t, "of an empty list", got, e, nil)
	long := []string{strings.Repeat("x", api.MaxWire+1), "\x00\xff"}
	got, e = board.Blocks(long, 0, 2)
	same(t, "of a long entry", got, e, []string{digestModel(long)})
}

func TestB1BlocksWrong(t *testing.T) {
	for _, size := range []int{0, 1, 6} {
		for _, s := range wrongSpans(size) {
			got, e := board.Blocks(entriesOf(size), s[0], s[1])
			fails(t, fmt.Sprint(s, " of ", size), len(got) == 0, e, api.ErrRange)
		}
	}
}

func TestB1BlocksMost(t *testing.T) {
	all := make([]string, api.MaxEntries, api.MaxEntries+1)
	all[api.MaxEntries-1] = "last"
	got, e := board.Blocks(all, api.MaxEntries-1, api.MaxEntries)
	same(t, "the last one", got, e, []string{digestModel([]string{"last"})})
	got, e = board.Blocks(all, 0, api.MaxEntries/2)
	same(t, "the first half", got, e, []string{digestOfEmpty(19)})
	for _, s := range [][2]int{{0, 0}, {0, 1}, {0, api.MaxEntries}, {0, api.MaxEntries + 1}} {
		got, e := board.Blocks(append(all, ""), s[0], s[1])
		fails(t, fmt.Sprint(s, " of too many"), len(got) == 0, e, api.ErrRange)
	}
}

func TestB2Head(t *testing.T) {
	d := dice()
	sizes := []int{255, 256, 257, 65535, 65536, api.MaxEntries - 1, api.MaxEntries}
	for size := range 70 {
		sizes = append(sizes, size)
	}
	for _, size := range sizes {
		blocks := digestsOf(d, len(coverModel(0, size)))
		got, e := board.Head(size, blocks)
		same(t, fmt.Sprint("of ", size), got, e, headModel(size, blocks))
	}
	got, e := board.Head(0, []string{})
	same(t, "of an empty list", got, e, headModel(0, nil))
}

func TestB2HeadWrong(t *testing.T) {
	d := dice()
	for _, size := range []int{-1, api.MaxEntries + 1, api.MaxEntries + 2, 1 << 32, 1<<32 + 1, least, most} {
		for _, blocks := range [][]string{nil, digestsOf(d, 1), digestsOf(d, 2), {"short"}} {
			got, e := board.Head(size, blocks)
			fails(t, fmt.Sprint(size, " with ", len(blocks)), got == "", e, api.ErrRange)
		}
	}
	for _, size := range []int{0, 1, 2, 3, 5, 7, 64, api.MaxEntries - 1, api.MaxEntries} {
		n := len(coverModel(0, size))
		for _, m := range []int{0, 1, n - 1, n + 1, 2 * n, 21} {
			if m != n && m >= 0 {
				got, e := board.Head(size, digestsOf(d, m))
				fails(t, fmt.Sprint(size, " with ", m), got == "", e, api.ErrForm)
			}
		}
		for i := range n {
			for _, long := range []int{0, 1, 31, 33, 64} {
				blocks := digestsOf(d, n)
				blocks[i] = bytesOf(d, long)
				got, e := board.Head(size, blocks)
				fails(t, fmt.Sprint(size, " with one of ", long, " bytes"), got == "", e, api.ErrForm)
			}
		}
	}
}

// around are the three lists that Meets is handed, of entries.
func around(entries []string, lo, hi int) [3][]string {
	return [3][]string{blocksModel(entries, 0, lo), blocksModel(entries, lo, hi), blocksModel(entries, hi, len(entries))}
}

func meets(head string, size, lo, hi int, l [3][]string) bool {
	return board.Meets(head, size, lo, hi, l[0], l[1], l[2])
}

func TestB3Meets(t *testing.T) {
	for size := range 20 {
		all := entriesOf(size)
		head := headOf(all)
		for lo := range size + 1 {
			for hi := lo; hi <= size; hi++ {
				if !meets(head, size, lo, hi, around(all, lo, hi)) {
					t.Errorf("%d to %d of %d does not meet", lo, hi, size)
				}
			}
		}
	}
	if !board.Meets(headModel(0, nil), 0, 0, 0, []string{}, []string{}, []string{}) {
		t.Error("empty lists do not meet")
	}
}

func TestB3AnyDigests(t *testing.T) {
	d := dice()
	for range 300 {
		size := d.IntN(1 << d.IntN(21))
		lo := d.IntN(size + 1)
		hi := lo + d.IntN(size-lo+1)
		if d.IntN(4) == 0 {
			size, hi = api.MaxEntries, api.MaxEntries-d.IntN(2)
		}
		l := [3][]string{
			digestsOf(d, len(coverModel(0, lo))), digestsOf(d, len(coverModel(lo, hi))), digestsOf(d, len(coverModel(hi, size))),
		}
		head := headAround(d, size, lo, hi, l[0], l[1], l[2])
		if !meets(head, size, lo, hi, l) || meets(bytesOf(d, 32), size, lo, hi, l) {
			t.Errorf("%d to %d of %d: meets what it should not, or does not what it should", lo, hi, size)
		}
	}
}

func TestB3OtherDigests(t *testing.T) {
	all := entriesOf(13)
	head := headOf(all)
	for lo := range 14 {
		for hi := lo; hi <= 13; hi++ {
			right := around(all, lo, hi)
			for k := range right {
				for what, changed := range changedLists(right[k]) {
					l := right
					l[k] = changed
					if meets(head, 13, lo, hi, l) {
						t.Errorf("%d to %d meets, list %d: %s", lo, hi, k, what)
					}
				}
			}
		}
	}
}

// changedLists are lists that are not right where one is.
func changedLists(right []string) map[string][]string {
	out := map[string][]string{
		"one more":       append(slices.Clone(right), strings.Repeat("m", 32)),
		"one more ahead": append([]string{strings.Repeat("m", 32)}, right...),
		"an empty one":   append(slices.Clone(right), ""),
	}
	for i, d := range right {
		put := func(what, d string) {
			l := slices.Clone(right)
			l[i] = d
			out[fmt.Sprint(what, " ", i)] = l
		}
		put("another one", string([]byte{d[0] ^ 1})+d[1:])
		put("another end", d[:31]+string([]byte{d[31] ^ 128}))
		put("a short one", d[:31])
		put("a long one", d+"\x00")
		put("none", "")
		out[fmt.Sprint("without ", i)] = slices.Delete(slices.Clone(right), i, i+1)
		out[fmt.Sprint("twice ", i)] = slices.Insert(slices.Clone(right), i, d)
		if i > 0 {
			l := slices.Clone(right)
			l[i], l[i-1] = l[i-1], l[i]
			out[fmt.Sprint("changed about ", i)] = l
		}
	}
	return out
}

func TestB3OtherNumbers(t *testing.T) {
	all := entriesOf(13)
	head := headOf(all)
	l := around(all, 5, 9)
	for _, size := range []int{12, 14, 9, 0, -1, -13, 13 + 1<<32, api.MaxEntries + 1, least, most} {
		if meets(head, size, 5, 9, l) {
			t.Errorf("meets with the size %d", size)
		}
	}
	for lo := -2; lo < 16; lo++ {
		for hi := -2; hi < 16; hi++ {
			if (lo != 5 || hi != 9) && meets(head, 13, lo, hi, l) {
				t.Errorf("meets with %d to %d", lo, hi)
			}
		}
	}
	for _, other := range []string{"", head[:31], head + "\x00", headOf(all[:12]), headOf(nil), string([]byte{head[0] ^ 1}) + head[1:]} {
		if meets(other, 13, 5, 9, l) {
			t.Errorf("meets with the head %x", other)
		}
	}
}

// Numbers that are wrong do not meet, not even where the digests are those of what they would stand for.
func TestB3WrongNumbers(t *testing.T) {
	all := entriesOf(13)
	for _, size := range []int{0, 1, 13} {
		for _, s := range wrongSpans(size) {
			for _, l := range [][3][]string{{}, around(all[:size], 0, size), around(all[:size], size, size)} {
				if meets(headOf(all[:size]), size, s[0], s[1], l) {
					t.Errorf("%d to %d of %d meets", s[0], s[1], size)
				}
			}
		}
	}
	d := dice()
	size := api.MaxEntries + 1
	l := [3][]string{digestsOf(d, 2), nil, nil}
	if meets(headModel(size, l[0]), size, size, size, l) {
		t.Error("meets with too many entries")
	}
	l = [3][]string{digestsOf(d, 1), nil, digestsOf(d, 1)}
	if meets(headModel(size, slices.Concat(l[0], l[2])), size, size-1, size-1, l) {
		t.Error("meets with one entry too many")
	}
	l = [3][]string{nil, digestsOf(d, 1), blocksModel(all, 0, 13)}
	if meets(headModel(13, slices.Concat(l[1], l[2])), 13, -1, 0, l) {
		t.Error("meets with an entry ahead of the first one")
	}
	if meets(headModel(-1, nil), -1, 0, 0, [3][]string{}) || meets(headModel(-1, nil), -1, -1, -1, [3][]string{}) {
		t.Error("meets with fewer entries than none")
	}
}

// A list that goes on from an older one shows it: its blocks are those of the older head, and of the newer one.
func TestB3GoesOn(t *testing.T) {
	all := entriesOf(40)
	for old := range 41 {
		inner, e := board.Blocks(all, 0, old)
		before, e2 := board.Head(old, inner)
		after, e3 := board.Blocks(all, old, 40)
		if e != api.OK || e2 != api.OK || e3 != api.OK || before != headOf(all[:old]) || !board.Meets(headOf(all), 40, 0, old, nil, inner, after) {
			t.Errorf("of %d entries it is not shown that they go on", old)
		}
		other := slices.Clone(all)
		if old > 0 {
			other[old-1] = "other"
			inner, _ = board.Blocks(other, 0, old)
			if board.Meets(headOf(all), 40, 0, old, nil, inner, after) {
				t.Errorf("of %d other entries it is shown that they go on", old)
			}
		}
	}
}

func TestE2Blocks(t *testing.T) {
	all := entriesOf(13)
	room := append(slices.Clone(all), "spare", "spare")
	first, _ := board.Blocks(room[:13], 2, 11)
	for i := range first {
		first[i] = "changed"
	}
	second, e := board.Blocks(room[:13], 2, 11)
	same(t, "Blocks again", second, e, blocksModel(all, 2, 11))
	same(t, "entries", room, api.OK, append(slices.Clone(all), "spare", "spare"))

	blocks := append(digestsOf(dice(), 3), "spare", "spare")
	kept := slices.Clone(blocks)
	board.Head(7, blocks[:3])
	board.Meets("", 7, 7, 7, blocks[:3], blocks[3:3], blocks[3:3])
	board.Meets("", 14, 7, 7, blocks[:3], blocks[3:3], blocks[:3])
	same(t, "blocks", blocks, api.OK, kept)

	spans, _ := board.Cover(0, 7)
	spans[0] = api.Span{}
	spans, e = board.Cover(0, 7)
	same(t, "Cover again", spans, e, coverModel(0, 7))
}
