package watch

import (
	"hustings/api"
	"hustings/board"
	"hustings/roll"
	"hustings/tally"
)

// enter changes the phase.
func (w *Watcher) enter(phase int) {
	w.phase = phase
	beginning(phase)(w)
}

// beginning is what a change to a phase does: it lays what the phase needs, and lets go of what no phase needs any more.
func beginning(phase int) func(*Watcher) {
	switch phase {
	case api.PhaseRoll:
		return (*Watcher).beginRoll
	case api.PhaseOpen:
		return (*Watcher).beginUrn
	case api.PhaseMix:
		return (*Watcher).beginMixes
	case api.PhaseShare:
		return (*Watcher).beginWants
	}
	return (*Watcher).end
}

// begin takes a manifest.
func (w *Watcher) begin(m api.Manifest) api.Errno {
	key, e := tally.Key(m)
	if e != api.OK {
		return e
	}
	w.m, w.key = m, key
	w.enter(api.PhaseRoll)
	return api.OK
}

// beginRoll: nothing is wrong with the manifest, for it was read.
func (w *Watcher) beginRoll() {
	w.digest, _ = roll.Digest(w.m)
	w.voters, _ = roll.Open(w.m)
}

// change changes the roll.
func (w *Watcher) change(c api.Change) api.Errno { return w.voters.Apply(c) }

// open opens the polls, close closes them.
func (w *Watcher) open(s api.Stamp) api.Errno { return w.stamped(s, api.PhaseOpen) }

func (w *Watcher) close(s api.Stamp) api.Errno { return w.stamped(s, api.PhaseMix) }

// stamped goes on to a phase, if the clerk has signed the record as it is.
func (w *Watcher) stamped(s api.Stamp, next int) api.Errno {
	if s.Size != w.size || s.Head != w.head() || !board.Signed(w.m.Kind, w.m.Clerk, w.digest, s) {
		return api.ErrProof
	}
	w.enter(next)
	return api.OK
}
