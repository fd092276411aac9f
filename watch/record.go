package watch

import "hustings/kit"

// record is what stands for the entries so far: how many they are, and the digests of the blocks of their cover. The
// entries themselves are needed no more.
type record struct {
	size  int
	cover []string
}

// grow adds an entry. Each block that it is the second half of, or ends the second half of, becomes one with the first.
func (r *record) grow(entry string) {
	d := kit.EntryDigest(entry)
	for n := r.size; n%2 == 1; n /= 2 {
		last := len(r.cover) - 1
		d = kit.BlockDigest(r.cover[last], d)
		r.cover = r.cover[:last]
	}
	r.cover = append(r.cover, d)
	r.size++
}

func (r *record) head() string { return kit.Head(r.size, r.cover) }
