package watch

import (
	"hustings/api"
	"hustings/fold"
	"hustings/kit"
	"hustings/mix"
)

// mixes is how far the rows of ranks are mixed.
type mixes struct {
	rows  map[int][][]api.Cipher // by contest: what came out of its last mix, ahead of the first one what was cast
	queue []int                  // the contests that are mixed, in order
	done  int                    // so many mixes, of all of these
}

// beginMixes: nobody votes any more, and no code is told.
func (w *Watcher) beginMixes() {
	w.voters, w.urn.places, w.urn.codes = nil, nil, nil
	w.mixes = mixes{rows: map[int][][]api.Cipher{}}
	for contest, c := range w.m.Contests {
		rows := w.urn.rows(contest)
		if kit.Ranks(c) && len(rows) > 0 {
			w.mixes.rows[contest] = rows
			w.mixes.queue = append(w.mixes.queue, contest)
		}
	}
	w.mixOn()
}

// mixOn: when all is mixed, what is hidden can be opened.
func (w *Watcher) mixOn() {
	if w.mixes.done == len(w.mixes.queue)*w.m.Mixes {
		w.enter(api.PhaseShare)
	}
}

// turn is which contest is to be mixed next, and how often it was mixed so far.
func (w *Watcher) turn() (contest, times int) {
	return w.mixes.queue[w.mixes.done/w.m.Mixes], w.mixes.done % w.m.Mixes
}

// mixLabel is what a mix is made with: so it is right at no other place.
func (w *Watcher) mixLabel(contest, times int) string {
	return fold.Tag("mixed", []string{w.digest, kit.Four(contest), kit.Four(times)})
}

// mix takes the next mix.
func (w *Watcher) mix(m mixing) api.Errno {
	contest, times := w.turn()
	if m.contest != contest {
		return api.ErrRight
	}
	e := mix.Check(w.m.Kind, w.key, w.mixLabel(contest, times), w.mixes.rows[contest], m.Mixed)
	if e != api.OK {
		return e
	}
	w.mixes.rows[contest] = m.Out
	w.mixes.done++
	w.mixOn()
	return api.OK
}
