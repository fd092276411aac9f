package board_test

import (
	"maps"
	"math/rand/v2"
	"slices"
	"strings"
	"testing"

	"hustings/api"
)

// meanDisk does all that chapter 7 lets a disk do: what was not made safe may be lost whenever the power goes, even what was
// still there when it went the last time; a Write or a Sync that is refused may have been done all the same.
type meanDisk struct {
	t       *testing.T
	sectors map[int][]string // what each may turn out to have: first what is safe, last what Read tells
	size    int
	left    int // so many calls are done yet; below 0: all are
	off     bool
	calls   int
}

func newMeanDisk(t *testing.T, size, power int) *meanDisk {
	return &meanDisk{t: t, sectors: map[int][]string{}, size: size, left: power}
}

func (d *meanDisk) Sectors() int { return d.size }

func (d *meanDisk) Read(i int) (string, api.Errno) {
	d.right(i)
	if d.refuses() {
		return strings.Repeat("?", api.Sector), api.ErrPower
	}
	l := d.at(i)
	return l[len(l)-1], api.OK
}

func (d *meanDisk) Write(i int, b string) api.Errno {
	d.right(i)
	if len(b) != api.Sector {
		d.t.Errorf("%d bytes are written as a sector", len(b))
	}
	wasOff := d.off
	no := d.refuses()
	if !wasOff {
		d.sectors[i] = append(d.at(i), b)
	}
	if no {
		return api.ErrPower
	}
	return api.OK
}

func (d *meanDisk) Sync() api.Errno {
	if d.refuses() {
		return api.ErrPower
	}
	for i, l := range d.sectors {
		d.sectors[i] = l[len(l)-1:]
	}
	return api.OK
}

func (d *meanDisk) at(i int) []string {
	if l := d.sectors[i]; l != nil {
		return l
	}
	return []string{strings.Repeat("\x00", api.Sector)}
}

func (d *meanDisk) right(i int) {
	if i < 0 || i >= d.size {
		d.t.Errorf("sector %d of %d is asked for", i, d.size)
	}
}

func (d *meanDisk) refuses() bool {
	d.calls++
	if d.off {
		d.t.Error("a disk that has refused a call is called again")
	}
	d.off = d.off || d.left == 0
	if d.left > 0 {
		d.left--
	}
	return d.off
}

// ways tells in how many ways the power can come back: each sector may have any of what it may turn out to have.
func (d *meanDisk) ways() int {
	n := 1
	for _, l := range d.sectors {
		n *= len(l)
	}
	return n
}

// back is the disk when the power has come back in one of these ways.
func (d *meanDisk) back(way, power int) *meanDisk {
	out := newMeanDisk(d.t, d.size, power)
	for _, i := range slices.Sorted(maps.Keys(d.sectors)) {
		l := d.sectors[i]
		out.sectors[i] = slices.Clone(l[:way%len(l)+1])
		way /= len(l)
	}
	return out
}

// byLot is the disk when the power has come back in any way.
func (d *meanDisk) byLot(dice *rand.Rand, power int) *meanDisk {
	return d.back(dice.IntN(d.ways()), power)
}
