package board

import (
	"strings"

	"hustings/api"
	"hustings/kit"
)

// How a ledger lies on a disk: sector 0 says how many bytes there are (eight bytes, then zeros); from sector 1 on all
// entries lie one behind the other, each with its length ahead of it (four bytes). What lies behind these bytes does not
// count. So an entry is laid and made safe first, and counts by one sector, which is written whole or not at all.
const (
	firstSector = 1
	spare       = 2 // so many sectors are not for entries
	countBytes  = 8
	lengthBytes = 4
)

// sectorsMost is how many sectors all entries need that there may ever be: what a greater disk has is not needed.
const sectorsMost = api.MaxEntries*(api.MaxWire+lengthBytes)/api.Sector + spare

// disk is one that is known to be off once it has refused a call.
type disk struct {
	under api.Disk
	off   bool
}

func (d *disk) done(ok bool) bool {
	d.off = d.off || !ok
	return !d.off
}

func (d *disk) read(i int) (string, bool) {
	b, e := d.under.Read(i)
	return b, d.done(e == api.OK && len(b) == api.Sector)
}

// write writes a sector; what is missing at its end are zeros.
func (d *disk) write(i int, b string) bool {
	return d.done(d.under.Write(i, b+strings.Repeat("\x00", api.Sector-len(b))) == api.OK)
}

func (d *disk) sync() bool { return d.done(d.under.Sync() == api.OK) }

// log is what lies on a disk.
type log struct {
	disk
	room int // so many bytes may lie there
	used int // so many do
}

func logOn(d api.Disk, sectors int) log {
	return log{disk: disk{under: d}, room: api.Sector * (min(sectors, sectorsMost) - spare)}
}

// needs is how many bytes an entry needs.
func needs(entry string) int { return lengthBytes + len(entry) }

// find learns how many bytes lie on the disk.
func (l *log) find() api.Errno {
	b, ok := l.read(0)
	if !ok {
		return api.ErrPower
	}
	n := number(b[:countBytes])
	if n < 0 || n > l.room || strings.Trim(b[countBytes:], "\x00") != "" {
		return api.ErrForm
	}
	l.used = n
	return api.OK
}

// bytes are n bytes from a place on.
func (l *log) bytes(at, n int) (string, bool) {
	out := make([]byte, 0, n)
	for len(out) < n {
		i := at + len(out)
		b, ok := l.read(firstSector + i/api.Sector)
		if !ok {
			return "", false
		}
		b = b[i%api.Sector:]
		out = append(out, b[:min(len(b), n-len(out))]...)
	}
	return string(out), true
}

// entry is the one that begins at a place.
func (l *log) entry(at int) (string, api.Errno) {
	if l.used-at < lengthBytes {
		return "", api.ErrForm
	}
	b, ok := l.bytes(at, lengthBytes)
	if !ok {
		return "", api.ErrPower
	}
	n := number(b)
	if n > api.MaxWire || n > l.used-at-lengthBytes {
		return "", api.ErrForm
	}
	b, ok = l.bytes(at+lengthBytes, n)
	if !ok {
		return "", api.ErrPower
	}
	return b, api.OK
}

// lay lays an entry behind all others; false, if the disk refuses a call.
func (l *log) lay(entry string) bool {
	used := l.used + needs(entry)
	// The entry is safe ahead of its being counted: the count may be kept where the rest is lost.
	ok := l.layBytes(kit.Four(len(entry))+entry) && l.sync() && l.write(0, eight(used)) && l.sync()
	if ok {
		l.used = used
	}
	return ok
}

// layBytes lays bytes behind all others. Of the sector that is begun already those that count are written again.
func (l *log) layBytes(b string) bool {
	begun := l.used % api.Sector
	old, ok := l.bytes(l.used-begun, begun)
	b = old + b
	for i := firstSector + l.used/api.Sector; ok && b != ""; i++ {
		n := min(len(b), api.Sector)
		ok = l.write(i, b[:n])
		b = b[n:]
	}
	return ok
}

// number is bytes as a number, the highest first; eight is a number as eight of them.
func number(b string) int {
	n := 0
	for i := range len(b) {
		n = n<<8 | int(b[i])
	}
	return n
}

func eight(n int) string { return kit.Four(n>>32) + kit.Four(n) }
