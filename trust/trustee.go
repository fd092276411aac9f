package trust

import (
	"slices"

	"hustings/api"
)

// Trustee is one. It has a record of all posts that it has seen.
type Trustee struct {
	record
	me     int
	offer  api.Post
	shares []string // for each trustee
	posts  int      // so many it has seen
	known  [trusteesMost + 1]lore
}

// lore is what a trustee knows of a dealer.
type lore struct {
	heard map[string]struct{} // ahead of the offer, for each of them may turn out to be the one that fits
	share string              // the one that fits, if it is known: there is no other
}

// NewTrustee makes one.
func NewTrustee(kind int, need int, of int, me int, seed string) (*Trustee, api.Errno) {
	c, e := circleOf(kind, need, of)
	if e == api.OK && !c.has(me) {
		e = api.ErrRange
	}
	if e != api.OK {
		return nil, e
	}
	coefficients := c.coefficients(seed)
	d := c.dealing(coefficients)
	t := &Trustee{
		record: record{circle: c},
		me:     me,
		offer:  c.makeOffer(me, d.Commits, coefficients[0], seed),
		shares: d.Shares,
	}
	t.learn(me, t.shares[me-1])
	return t, api.OK
}

// Offer is its offer; Share is what it gives to another one.
func (t *Trustee) Offer() api.Post {
	p := t.offer
	p.Commits = slices.Clone(p.Commits)
	p.Proof.Answers = slices.Clone(p.Proof.Answers)
	return p
}

func (t *Trustee) Share(to int) (string, api.Errno) {
	if !t.has(to) {
		return "", api.ErrRange
	}
	return t.shares[to-1], api.OK
}

// Hear tells it a share; See shows it a post.
func (t *Trustee) Hear(from int, share string) api.Errno {
	switch {
	case !t.has(from) || from == t.me:
		return api.ErrRange
	case t.noScalar(share):
		return api.ErrScalar
	}
	t.learn(from, share)
	return api.OK
}

func (t *Trustee) See(p api.Post) {
	t.posts++
	if !t.take(p) {
		return
	}
	switch {
	case p.Do == api.PostOffer:
		t.sift(p.From)
	case p.Do == api.PostShow && p.About == t.me:
		t.learn(p.From, p.Share)
	}
}

// learn is what it does with a share of a dealer.
func (t *Trustee) learn(from int, share string) {
	l := &t.known[from]
	switch {
	case t.dealers[from].deals():
		t.keep(from, share)
	case l.heard == nil:
		l.heard = map[string]struct{}{share: {}}
	default:
		l.heard[share] = struct{}{}
	}
}

// sift looks into what was heard ahead of a dealer's offer.
func (t *Trustee) sift(from int) {
	l := &t.known[from]
	for share := range l.heard {
		t.keep(from, share)
	}
	l.heard = nil
}

// keep keeps a share of a dealer, if it is the one that fits.
func (t *Trustee) keep(from int, share string) {
	if l := &t.known[from]; l.share == "" && t.fits(t.dealers[from].commits, t.me, share) {
		l.share = share
	}
}

// knows tells whether it knows its share of a dealer.
func (t *Trustee) knows(from int) bool { return t.known[from].share != "" }

// Blames and Shows are what it has to post.
func (t *Trustee) Blames() []api.Post {
	var out []api.Post
	for x := range t.dealers {
		d := &t.dealers[x]
		if x != t.me && d.deals() && !t.knows(x) && d.blames[t.me] == noBlame {
			out = append(out, api.Post{Do: api.PostBlame, From: t.me, About: x})
		}
	}
	return out
}

func (t *Trustee) Shows() []api.Post {
	var out []api.Post
	for x, b := range t.dealers[t.me].blames {
		if b == blamed {
			out = append(out, api.Post{Do: api.PostShow, From: t.me, About: x, Share: t.shares[x-1]})
		}
	}
	return out
}

// Secret is its share of the secret that nobody has.
func (t *Trustee) Secret() (string, api.Errno) {
	if t.posts > postsMost {
		return "", api.ErrLong
	}
	counting, e := t.counting()
	if e != api.OK {
		return "", e
	}
	sum := t.number(0)
	for _, x := range counting {
		if !t.knows(x) {
			return "", api.ErrNone
		}
		sum = t.plus(sum, t.known[x].share)
	}
	return sum, api.OK
}
