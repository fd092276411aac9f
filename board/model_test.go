package board_test

import (
	"math/rand/v2"
	"slices"

	"hustings/api"
	"hustings/fold"
)

// What the document says, written a second time, as near to its words as can be.

// coverModel tries all blocks that begin at a place, the greatest first.
func coverModel(lo, hi int) []api.Span {
	var out []api.Span
	for lo < hi {
		size := 1 << 40
		for lo%size != 0 || lo+size > hi {
			size /= 2
		}
		out = append(out, api.Span{Lo: lo, Hi: lo + size})
		lo += size
	}
	return out
}

// digestModel puts digests together row by row, till one is left.
func digestModel(entries []string) string {
	var row []string
	for _, it := range entries {
		row = append(row, fold.Tag("entry", []string{it}))
	}
	for len(row) > 1 {
		var next []string
		for i := 0; i < len(row); i += 2 {
			next = append(next, fold.Tag("block", row[i:i+2]))
		}
		row = next
	}
	return row[0]
}

// digestOfEmpty is that of a block of 2^k empty entries: its halves are alike.
func digestOfEmpty(k int) string {
	d := digestModel([]string{""})
	for range k {
		d = fold.Tag("block", []string{d, d})
	}
	return d
}

func blocksModel(entries []string, lo, hi int) []string {
	var out []string
	for _, b := range coverModel(lo, hi) {
		out = append(out, digestModel(entries[b.Lo:b.Hi]))
	}
	return out
}

func headModel(size int, blocks []string) string {
	n := []byte{byte(size >> 24), byte(size >> 16), byte(size >> 8), byte(size)}
	return fold.Tag("head", append([]string{string(n)}, blocks...))
}

// headOf is the head of entries.
func headOf(entries []string) string {
	return headModel(len(entries), blocksModel(entries, 0, len(entries)))
}

// joinedModel puts any two halves together, by lot, till there are none.
func joinedModel(dice *rand.Rand, spans []api.Span, digests []string) []string {
	spans, digests = slices.Clone(spans), slices.Clone(digests)
	for {
		var halves []int
		for i := range len(spans) - 1 {
			a, b := spans[i], spans[i+1]
			if size := a.Hi - a.Lo; b.Hi-b.Lo == size && a.Lo%(2*size) == 0 {
				halves = append(halves, i)
			}
		}
		if len(halves) == 0 {
			return digests
		}
		i := halves[dice.IntN(len(halves))]
		spans[i].Hi = spans[i+1].Hi
		digests[i] = fold.Tag("block", digests[i:i+2])
		spans, digests = slices.Delete(spans, i+1, i+2), slices.Delete(digests, i+1, i+2)
	}
}

// headAround is the head of what lies in three covers with these digests.
func headAround(dice *rand.Rand, size, lo, hi int, before, inner, after []string) string {
	spans := slices.Concat(coverModel(0, lo), coverModel(lo, hi), coverModel(hi, size))
	return headModel(size, joinedModel(dice, spans, slices.Concat(before, inner, after)))
}
