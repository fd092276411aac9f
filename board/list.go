package board

import (
	"math/bits"

	"hustings/api"
	"hustings/kit"
)

// list is entries, with the digests of all blocks that are full: so heads and covers need no entry again.
type list struct {
	entries []string
	digests [][]string // of the blocks of 1, 2, 4 .. entries, one behind the other
}

// grow adds an entry, and the blocks that end with it.
func (l *list) grow(entry string) {
	l.entries = append(l.entries, entry)
	d := kit.EntryDigest(entry)
	for k := 0; ; k++ {
		if k == len(l.digests) {
			l.digests = append(l.digests, nil)
		}
		row := append(l.digests[k], d)
		l.digests[k] = row
		if len(row)%2 != 0 {
			return
		}
		d = kit.BlockDigest(row[len(row)-2], d)
	}
}

// digestOf is that of a block.
func (l *list) digestOf(b api.Span) string {
	k := bits.TrailingZeros(uint(b.Hi - b.Lo))
	return l.digests[k][b.Lo>>k]
}

// blocks are the digests of a cover.
func (l *list) blocks(lo, hi int) []string {
	var out []string
	for b := range cover(lo, hi) {
		out = append(out, l.digestOf(b))
	}
	return out
}

// head is that of all entries.
func (l *list) head() string {
	h, _ := Head(len(l.entries), l.blocks(0, len(l.entries)))
	return h
}
