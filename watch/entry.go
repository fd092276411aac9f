package watch

import (
	"hustings/api"
	"hustings/node"
	"hustings/roll"
)

// entry is what is written in a record: the phase that it can come in, and what it does to a watcher then. If it is not
// right, it does nothing but tell so.
type entry struct {
	phase int
	does  func(w *Watcher) api.Errno
}

// entryOf is the entry that does something with what was read of it.
func entryOf[T any](phase int, x T, does func(*Watcher, T) api.Errno) entry {
	return entry{phase, func(w *Watcher) api.Errno { return does(w, x) }}
}

// readEntry reads a text: ErrLong, if it has too many bytes; ErrForm, if no entry is written so.
func readEntry(text string) (entry, api.Errno) {
	x, e := node.Read(text, takeEntry)
	if e != api.ErrForm {
		return x, e
	}
	m, e := roll.Read(text)
	if e != api.OK {
		return entry{}, e
	}
	return entryOf(api.PhaseNone, m, (*Watcher).begin), api.OK
}

// takeEntry takes all but a manifest.
func takeEntry(t *node.Taker) entry {
	switch t.Text() {
	case changeLeaf:
		return entryOf(api.PhaseRoll, takeChange(t), (*Watcher).change)
	case openLeaf:
		return entryOf(api.PhaseRoll, takeStamp(t), (*Watcher).open)
	case castLeaf:
		return entryOf(api.PhaseOpen, takeCast(t), (*Watcher).cast)
	case openedLeaf:
		return entryOf(api.PhaseOpen, takeOpened(t), (*Watcher).opened)
	case closeLeaf:
		return entryOf(api.PhaseOpen, takeStamp(t), (*Watcher).close)
	case mixLeaf:
		return entryOf(api.PhaseMix, takeMixing(t), (*Watcher).mix)
	case shareLeaf:
		return entryOf(api.PhaseShare, takePart(t), (*Watcher).share)
	}
	t.Refuse()
	return entry{}
}
