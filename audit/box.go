package audit

import (
	"hustings/api"
	"hustings/kit"
)

// How a box stands.
const (
	shut = iota // it is sealed, and somebody holds it
	underWay
	opened
)

// countMost is how many ballots may be in a box.
const countMost = 1 << 20

// box is a batch, and what else is to be known of it.
type box struct {
	api.Batch
	stands int
	to     string // whom it was given to, of one under way
}

// deed is one of the things that can happen to a box.
type deed struct {
	packs  bool // there is no such box ahead of it: ahead of all others there is
	stands int  // how the box must stand
	gives  bool // it has a To, and no Seal
	counts bool // it has a Count
	looks  bool // its Seal, and its Count, must be those of the box: else they are new ones
	does   func(b *box, h api.Hand)
}

// deedOf is the one with a number; false, if there is none.
func deedOf(do int) (deed, bool) {
	switch do {
	case api.HandPack:
		return deed{packs: true, counts: true, does: (*box).pack}, true
	case api.HandGive:
		return deed{stands: shut, gives: true, does: (*box).give}, true
	case api.HandTake:
		return deed{stands: underWay, looks: true, does: (*box).take}, true
	case api.HandOpen:
		return deed{stands: shut, counts: true, looks: true, does: (*box).open}, true
	case api.HandClose:
		return deed{stands: opened, counts: true, does: (*box).close}, true
	}
	return deed{}, false
}

func (b *box) pack(h api.Hand) {
	b.Name, b.Count, b.Holder, b.Seal = h.Box, h.Count, h.Who, h.Seal
}

func (b *box) give(h api.Hand) { b.stands, b.to = underWay, h.To }

func (b *box) take(h api.Hand) { b.stands, b.to, b.Holder = shut, "", h.Who }

func (b *box) open(api.Hand) { b.stands, b.Seal = opened, "" }

func (b *box) close(h api.Hand) { b.stands, b.Count, b.Seal = shut, h.Count, h.Seal }

// next is who must do whatever is done next.
func (b box) next() string {
	if b.stands == underWay {
		return b.to
	}
	return b.Holder
}

// misfits tells whether texts are not of the form that the deed asks for.
func (d deed) misfits(h api.Hand) bool {
	return !kit.Word(h.Box) || !kit.Word(h.Who) || !wordIf(d.gives, h.To) || !wordIf(!d.gives, h.Seal)
}

// wordIf tells whether a text is a word where there is one, and empty elsewhere.
func wordIf(there bool, text string) bool {
	if there {
		return kit.Word(text)
	}
	return text == ""
}

// miscounts tells whether there can't be so many ballots, or something is counted where nothing is.
func (d deed) miscounts(h api.Hand) bool {
	if d.counts {
		return !within(h.Count, 0, countMost)
	}
	return h.Count != 0
}

// differs tells whether another seal is seen than the box has, or another count comes.
func (d deed) differs(b box, h api.Hand) bool {
	return d.looks && (h.Seal != b.Seal || d.counts && h.Count != b.Count)
}

// seals tells whether the Seal is a new one.
func (d deed) seals() bool { return !d.gives && !d.looks }

// hinders tells what hinders something, as the boxes are.
func (c *Custody) hinders(d deed, h api.Hand) api.Errno {
	b, there := c.boxes[h.Box]
	_, used := c.seals[h.Seal]
	switch {
	case d.packs && there:
		return api.ErrTwice
	case d.packs && len(c.boxes) >= boxesMost:
		return api.ErrFull
	case !d.packs && !there:
		return api.ErrNone
	case !d.packs && b.stands != d.stands:
		return api.ErrState
	case !d.packs && h.Who != b.next():
		return api.ErrRight
	case d.differs(b, h):
		return api.ErrProof
	case d.seals() && used:
		return api.ErrTwice
	}
	return api.OK
}

// do does what nothing is wrong with and nothing hinders.
func (c *Custody) do(d deed, h api.Hand) {
	b := c.boxes[h.Box]
	d.does(&b, h)
	c.boxes[h.Box] = b
	if d.seals() {
		c.seals[h.Seal] = struct{}{}
	}
}
