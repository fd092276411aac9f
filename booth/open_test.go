package booth_test

import (
	"fmt"
	"strings"
	"testing"

	"hustings/api"
	"hustings/booth"
	"hustings/fold"
	"hustings/plain"
	"hustings/roll"
)

// asked is what a booth is opened with.
type asked struct {
	m               api.Manifest
	key, name, seed string
	d               api.Disk
}

func askedOf(kind int) asked { return asked{town(kind), key(kind), "one", "seed", disk(10)} }

func (a asked) open() (*booth.Booth, api.Errno) { return booth.Open(a.m, a.key, a.name, a.seed, a.d) }

func TestT3Open(t *testing.T) {
	kinds(t, func(t *testing.T, kind int) {
		a := askedOf(kind)
		digest, _ := roll.Digest(a.m)
		for _, name := range []string{"one", "!", "~", strings.Repeat("n", 32)} {
			a.name = name
			b, e := a.open()
			if b == nil || e != api.OK {
				t.Fatal("Open", e)
			}
			same(t, "Last", b.Last(), e, fold.Tag("booth", []string{digest, name}))
			c, e := b.Cast()
			fails(t, "Cast", c, e, api.ErrState)
			o, e := b.Challenge()
			fails(t, "Challenge", o, e, api.ErrState)
		}
	})
}

// What lies on the disk are codes, whichever bytes they have.
func TestT3Codes(t *testing.T) {
	codes := []string{strings.Repeat("a", 32), strings.Repeat("\x00", 32), strings.Repeat("a", 32), strings.Repeat("\xff", 32)}
	for n := 1; n <= len(codes); n++ {
		a := askedOf(api.Tiny)
		a.d = diskWith(t, codes[:n]...)
		b, e := a.open()
		if b == nil || e != api.OK {
			t.Fatal("Open", e)
		}
		same(t, "Last", b.Last(), e, codes[n-1])
		m := model{m: a.m, key: a.key, name: a.name, seed: a.seed, room: 10, codes: codes[:n:n]}
		want, _ := m.fill("ann", 0, townChoices())
		got, e := b.Fill("ann", 0, townChoices())
		same(t, "Fill", got, e, want)
		same(t, "Last", b.Last(), e, want)
		o, e := b.Challenge()
		same(t, "Challenge", o, e, m.opening)
	}
}

func TestT3NoCodes(t *testing.T) {
	right := strings.Repeat("a", 32)
	for _, size := range []int{0, 1, 31, 33, 64, 1000} {
		wrong := strings.Repeat("a", size)
		for _, entries := range [][]string{{wrong}, {wrong, right, right}, {right, wrong, right}, {right, right, wrong}} {
			a := askedOf(api.Tiny)
			a.d = diskWith(t, entries...)
			b, e := a.open()
			fails(t, fmt.Sprint("an entry of bytes: ", size), b, e, api.ErrForm)
		}
	}
}

// askedFault is something that is wrong with what a booth is opened with.
type askedFault struct {
	what string
	do   func(*asked)
	e    api.Errno
}

// askedFaults are in the order in which they are told.
func askedFaults(t *testing.T) []askedFault {
	var out []askedFault
	out = append(out,
		askedFault{"no kind", func(a *asked) { a.m.Kind = 4 }, api.ErrKind},
		askedFault{"lots too long", func(a *asked) { a.m.Lots = strings.Repeat("l", 65) }, api.ErrLong},
		askedFault{"no contest", func(a *asked) { a.m.Contests = nil }, api.ErrForm},
		askedFault{"a number of trustees that is none", func(a *asked) { a.m.Need = 3 }, api.ErrRange},
		askedFault{"two styles of one name", func(a *asked) { a.m.Styles[0].Name = "ann" }, api.ErrTwice},
		askedFault{"a registrar without a key", func(a *asked) { a.m.Registrar = "" }, api.ErrElem},
	)
	for _, wrong := range []string{"", "\x00", strings.Repeat("\x00", 32), strings.Repeat("\xff", 2), strings.Repeat("\x01", 33)} {
		out = append(out, askedFault{"a key that is none", func(a *asked) { a.key = wrong }, api.ErrElem})
	}
	for _, wrong := range []string{"", " ", "a b", "a\x00", "\x7f", "\x80", "é", strings.Repeat("n", 33), strings.Repeat("n", 1<<20)} {
		out = append(out, askedFault{"a name that is no word", func(a *asked) { a.name = wrong }, api.ErrForm})
	}
	for _, sectors := range []int{0, 1, 2} {
		out = append(out, askedFault{"too small a disk", func(a *asked) { a.d = plain.NewDisk(sectors, -1) }, api.ErrForm})
	}
	refused := plain.NewDisk(10, -1)
	refused.Refused = true
	weak := diskWith(t, strings.Repeat("a", 32)).After(nil, 0)
	return append(out,
		askedFault{"no disk", func(a *asked) { a.d = nil }, api.ErrForm},
		askedFault{"a disk that is off", func(a *asked) { a.d = refused }, api.ErrPower},
		askedFault{"a disk that goes off", func(a *asked) { a.d = weak }, api.ErrPower},
		askedFault{"an entry that is no code", func(a *asked) { a.d = diskWith(t, "a") }, api.ErrForm},
	)
}

func TestT3Faults(t *testing.T) {
	for _, f := range askedFaults(t) {
		a := askedOf(api.Tiny)
		f.do(&a)
		b, e := a.open()
		fails(t, f.what, b, e, f.e)
	}
}

func TestT3TwoFaults(t *testing.T) {
	all := askedFaults(t)
	for i, first := range all {
		for _, second := range all[i+1:] {
			a := askedOf(api.Tiny)
			second.do(&a)
			first.do(&a)
			b, e := a.open()
			fails(t, first.what+", and "+second.what, b, e, first.e)
		}
	}
}

// A disk of three sectors is one, with room for one code.
func TestT3SmallDisk(t *testing.T) {
	a := askedOf(api.Tiny)
	a.d = plain.NewDisk(3, -1)
	b, e := a.open()
	if b == nil || e != api.OK {
		t.Fatal("Open", e)
	}
	first, e := b.Fill("ann", 1, [][]int{{0, 0, 1, 1}})
	tells(t, "Fill", e, api.OK)
	b.Cast()
	code, e := b.Fill("ann", 1, [][]int{{0, 0, 1, 1}})
	fails(t, "Fill, without room", code, e, api.ErrFull)
	same(t, "Last", b.Last(), api.OK, first)
}

// Other names, manifests, keys and seeds make other codes; what stands ahead of all of them hangs on the first two alone.
func TestT3Unlike(t *testing.T) {
	plainly, _ := askedOf(api.Short).open()
	ahead := plainly.Last()
	code, _ := plainly.Fill("ann", 0, townChoices())
	for _, c := range []struct {
		what  string
		do    func(*asked)
		ahead bool
	}{
		{"the name", func(a *asked) { a.name = "two" }, true},
		{"the manifest", func(a *asked) { a.m.Again = true }, true},
		{"the key", func(a *asked) { a.key = public(api.Short, 98) }, false},
		{"the seed", func(a *asked) { a.seed = "another seed" }, false},
	} {
		a := askedOf(api.Short)
		c.do(&a)
		b, e := a.open()
		tells(t, c.what, e, api.OK)
		if (b.Last() != ahead) != c.ahead {
			t.Errorf("%s: what stands ahead of all codes is another one: %t", c.what, b.Last() != ahead)
		}
		if other, _ := b.Fill("ann", 0, townChoices()); other == code {
			t.Errorf("%s: the code is the same", c.what)
		}
	}
}

func TestE2Open(t *testing.T) {
	a := askedOf(api.Tiny)
	a.m = cloneTown(a.m)
	onlyRead(t, "Open", a.m, func() { a.open() })
	b, _ := a.open()
	want := model{m: town(api.Tiny), key: a.key, name: a.name, seed: a.seed, room: 10}
	// Whoever handed the manifest in may change it.
	for i := range a.m.Contests {
		clear(a.m.Contests[i].Options[:cap(a.m.Contests[i].Options)])
	}
	for i := range a.m.Styles {
		clear(a.m.Styles[i].Contests[:cap(a.m.Styles[i].Contests)])
	}
	clear(a.m.Contests)
	clear(a.m.Styles)
	clear(a.m.Precincts)
	clear(a.m.Trustees)
	for precinct := range 4 {
		choices := anyChoices(dice(), want.m, precinct)
		code, errno := want.fill("ann", precinct, choices)
		got, e := b.Fill("ann", precinct, choices)
		same(t, "Fill", got, e, code)
		same(t, "Fill", e, api.OK, errno)
		wantCast, _ := want.giveCast()
		cast, e := b.Cast()
		same(t, "Cast", cast, e, wantCast)
	}
}
