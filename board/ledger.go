package board

import "hustings/api"

// Ledger is entries that lie on a disk.
type Ledger struct {
	log
	list
}

// Open opens one.
func Open(d api.Disk) (*Ledger, api.Errno) {
	if d == nil {
		return nil, api.ErrForm
	}
	sectors := d.Sectors()
	if sectors <= spare {
		return nil, api.ErrForm
	}
	l := &Ledger{log: logOn(d, sectors)}
	e := l.find()
	if e == api.OK {
		e = l.readAll()
	}
	// What is found may have been written without a Sync behind it: from now on it must not be lost. Where nothing lies
	// there is nothing to lose.
	if e == api.OK && l.used > 0 && !l.sync() {
		e = api.ErrPower
	}
	if e != api.OK {
		return nil, e
	}
	return l, api.OK
}

// readAll reads the entries that lie on the disk.
func (l *Ledger) readAll() api.Errno {
	for at := 0; at < l.used; {
		if l.Len() == api.MaxEntries {
			return api.ErrForm
		}
		entry, e := l.entry(at)
		if e != api.OK {
			return e
		}
		l.grow(entry)
		at += needs(entry)
	}
	return api.OK
}

// Add adds an entry.
func (l *Ledger) Add(entry string) api.Errno {
	switch {
	case l.off:
		return api.ErrPower
	case len(entry) > api.MaxWire:
		return api.ErrLong
	case l.Len() == api.MaxEntries || needs(entry) > l.room-l.used:
		return api.ErrFull
	case !l.lay(entry):
		return api.ErrPower
	}
	l.grow(entry)
	return api.OK
}

// Len, Entry and Head tell the entries.
func (l *Ledger) Len() int { return len(l.entries) }

func (l *Ledger) Entry(i int) (string, api.Errno) {
	if i < 0 || i >= l.Len() {
		return "", api.ErrRange
	}
	return l.entries[i], api.OK
}

func (l *Ledger) Head() string { return l.head() }

// Around is what shows a part of them.
func (l *Ledger) Around(lo int, hi int) (before []string, inner []string, after []string, e api.Errno) {
	if !within(lo, hi, l.Len()) {
		return nil, nil, nil, api.ErrRange
	}
	return l.blocks(0, lo), l.blocks(lo, hi), l.blocks(hi, l.Len()), api.OK
}
