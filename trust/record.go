package trust

import (
	"slices"

	"hustings/api"
)

// postsMost is of how many posts a key may come.
const postsMost = 1024

// How it stands with a trustee's blame about a dealer.
const (
	noBlame  = iota // none was taken
	blamed          // it was, and no show
	answered        // both were
)

// dealer is what posts have said of a trustee as a dealer.
type dealer struct {
	commits []string              // none, as long as no offer was taken
	blames  [trusteesMost + 1]int // by whom they came
}

// record is what has come of the posts so far.
type record struct {
	circle
	dealers [trusteesMost + 1]dealer // by their numbers
}

// take takes a post, or passes it over: it tells whether it was taken.
func (r *record) take(p api.Post) bool {
	if !r.has(p.From) {
		return false
	}
	switch p.Do {
	case api.PostOffer:
		return r.takeOffer(p)
	case api.PostBlame:
		return r.takeBlame(p)
	case api.PostShow:
		return r.takeShow(p)
	}
	return false
}

func (r *record) takeOffer(p api.Post) bool {
	d := &r.dealers[p.From]
	if d.deals() || !r.rightOffer(p) {
		return false
	}
	// The list stays with whoever has handed it in.
	d.commits = slices.Clone(p.Commits)
	return true
}

func (r *record) takeBlame(p api.Post) bool {
	if !r.has(p.About) || p.About == p.From {
		return false
	}
	d := &r.dealers[p.About]
	if !d.deals() || d.blames[p.From] != noBlame {
		return false
	}
	d.blames[p.From] = blamed
	return true
}

func (r *record) takeShow(p api.Post) bool {
	if !r.has(p.About) {
		return false
	}
	d := &r.dealers[p.From]
	if d.blames[p.About] != blamed || !r.fits(d.commits, p.About, p.Share) {
		return false
	}
	d.blames[p.About] = answered
	return true
}

// deals tells whether an offer of it was taken.
func (d *dealer) deals() bool { return len(d.commits) > 0 }

// counts tells whether its dealing does: it has answered all blames, and these were not so many that everybody can work its
// secret out of what it has shown.
func (d *dealer) counts(need int) bool {
	blames := 0
	for _, b := range d.blames {
		switch b {
		case blamed:
			return false
		case answered:
			blames++
		}
	}
	return d.deals() && blames < need
}

// counting are the dealers that count, rising.
func (r *record) counting() ([]int, api.Errno) {
	var out []int
	for x := range r.dealers {
		if r.dealers[x].counts(r.need) {
			out = append(out, x)
		}
	}
	if len(out) < r.need {
		return nil, api.ErrFew
	}
	return out, api.OK
}

// settled is what comes of the dealings that count: their sum is dealt, and nobody knows it.
func (r *record) settled(counting []int) api.Settled {
	commits := r.dealers[counting[0]].commits
	for _, x := range counting[1:] {
		commits = r.added(commits, r.dealers[x].commits)
	}
	s := api.Settled{Dealers: counting, Key: commits[0], Publics: make([]string, r.of)}
	for i := range s.Publics {
		s.Publics[i] = r.seen(commits, i+1)
	}
	return s
}
