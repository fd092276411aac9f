package board

import (
	"iter"
	"math/bits"

	"hustings/api"
	"hustings/kit"
)

// digestSize is how many bytes a digest has.
const digestSize = 32

// within tells whether lo to hi is a span of the first size entries.
func within(lo, hi, size int) bool { return 0 <= lo && lo <= hi && hi <= size }

// cover is the blocks that are together just the entries from lo on below hi.
func cover(lo, hi int) iter.Seq[api.Span] {
	return func(yield func(api.Span) bool) {
		for at := lo; at < hi; {
			b := api.Span{Lo: at, Hi: at + greatest(at, hi)}
			if !yield(b) {
				return
			}
			at = b.Hi
		}
	}
}

// greatest is how many entries the greatest block has that begins at a place and does not go beyond hi.
func greatest(at, hi int) int {
	size := 1 << (bits.Len(uint(hi-at)) - 1)
	if at == 0 {
		return size // 0 is a multiple of everything
	}
	return min(size, at&-at)
}

// digest is that of a block with these entries.
func digest(entries []string) string {
	if len(entries) == 1 {
		return kit.EntryDigest(entries[0])
	}
	half := len(entries) / 2
	return kit.BlockDigest(digest(entries[:half]), digest(entries[half:]))
}

// part is a block of which the digest is known, not the entries.
type part struct {
	api.Span
	digest string
}

// parts lie one behind the other; those that have a head begin with the first entry.
type parts []part

// partsOf are the blocks of a cover with these digests; false, if they are not as many or one is none.
func partsOf(lo, hi int, digests []string) (parts, bool) {
	var out parts
	for b := range cover(lo, hi) {
		k := len(out)
		if k == len(digests) || len(digests[k]) != digestSize {
			return nil, false
		}
		out = append(out, part{b, digests[k]})
	}
	return out, len(out) == len(digests)
}

// joined is what is left when halves are put together as long as that can be.
func (p parts) joined() parts {
	var out parts
	for _, b := range p {
		// What comes next may be the second half of the last one, and both together that of the one ahead of it.
		for len(out) > 0 && out[len(out)-1].halfWith(b) {
			b = out[len(out)-1].with(b)
			out = out[:len(out)-1]
		}
		out = append(out, b)
	}
	return out
}

// halfWith tells whether a part and the one that comes behind it are the halves of a block.
func (p part) halfWith(next part) bool {
	size := p.Hi - p.Lo
	return next.Hi-next.Lo == size && p.Lo%(2*size) == 0
}

func (p part) with(next part) part {
	return part{api.Span{Lo: p.Lo, Hi: next.Hi}, kit.BlockDigest(p.digest, next.digest)}
}

// size is how many entries all parts together are.
func (p parts) size() int {
	if len(p) == 0 {
		return 0
	}
	return p[len(p)-1].Hi
}

// head is that of these entries.
func (p parts) head() string {
	var digests []string
	for _, b := range p {
		digests = append(digests, b.digest)
	}
	return kit.Head(p.size(), digests)
}
