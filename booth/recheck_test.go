package booth_test

import (
	"fmt"
	"strings"
	"testing"

	"hustings/api"
	"hustings/ballot"
	"hustings/booth"
)

// shown is an opening, and what it is rechecked with.
type shown struct {
	m   api.Manifest
	key string
	o   api.Opening
}

func (s shown) recheck() api.Errno { return booth.Recheck(s.m, s.key, s.o) }

// rightly is one that is right.
func rightly(t *testing.T, kind int) shown {
	t.Helper()
	s := shown{town(kind), key(kind), api.Opening{Voter: "ann", Choices: townChoices(), Seed: "any seed", Prev: strings.Repeat("p", 32)}}
	b, e := ballot.Fill(s.m, s.key, s.o.Voter, s.o.Precinct, s.o.Choices, s.o.Seed)
	if e != api.OK {
		t.Fatal("a ballot can't be filled", e)
	}
	s.o.Code = codeModel(s.o.Prev, b)
	return s
}

func TestT2Recheck(t *testing.T) {
	kinds(t, func(t *testing.T, kind int) {
		tells(t, "Recheck", rightly(t, kind).recheck(), api.OK)
	})
}

// flipped is a text of which one bit is another one.
func flipped(s string, bit int) string {
	b := []byte(s)
	b[bit/8] ^= 1 << (bit % 8)
	return string(b)
}

func TestT2OtherCodes(t *testing.T) {
	s := rightly(t, api.Tiny)
	for bit := range 256 {
		other := s
		other.o.Code = flipped(s.o.Code, bit)
		tells(t, fmt.Sprint("another code, bit ", bit), other.recheck(), api.ErrProof)
		other = s
		other.o.Prev = flipped(s.o.Prev, bit)
		tells(t, fmt.Sprint("another code ahead of it, bit ", bit), other.recheck(), api.ErrProof)
	}
	s.o.Code, s.o.Prev = s.o.Prev, s.o.Code
	tells(t, "the codes changed about", s.recheck(), api.ErrProof)
}

// Whatever else an opening says than what the ballot was made of is found out.
func TestT2Others(t *testing.T) {
	kinds(t, func(t *testing.T, kind int) {
		for what, do := range map[string]func(*shown){
			"the voter":     func(s *shown) { s.o.Voter = "bob" },
			"the precinct":  func(s *shown) { s.o.Precinct = 3 },
			"the seed":      func(s *shown) { s.o.Seed += "s" },
			"no seed":       func(s *shown) { s.o.Seed = "" },
			"the key":       func(s *shown) { s.key = public(kind, 98) },
			"the manifest":  func(s *shown) { s.m.Name = "down" },
			"a mark":        func(s *shown) { s.o.Choices[0][0] = 0 },
			"another mark":  func(s *shown) { s.o.Choices[0] = []int{0, 1, 1} },
			"ranks":         func(s *shown) { s.o.Choices[1] = []int{1, 0, 2} },
			"an approval":   func(s *shown) { s.o.Choices[2][3] = 0 },
			"the last mark": func(s *shown) { s.o.Choices[3] = []int{0, 0} },
		} {
			s := rightly(t, kind)
			do(&s)
			tells(t, what, s.recheck(), api.ErrProof)
		}
	})
}

// fault is something that is wrong with an opening, or with what it is rechecked with.
type fault struct {
	what string
	do   func(*shown)
	e    api.Errno
}

// faults are in the order in which they are told.
func faults() []fault {
	return []fault{
		{"no code ahead", func(s *shown) { s.o.Prev = "" }, api.ErrForm},
		{"a code ahead that is short", func(s *shown) { s.o.Prev = s.o.Prev[min(1, len(s.o.Prev)):] }, api.ErrForm},
		{"a code ahead that is long", func(s *shown) { s.o.Prev += strings.Repeat("p", 33) }, api.ErrForm},
		{"no code", func(s *shown) { s.o.Code = "" }, api.ErrForm},
		{"a code that is short", func(s *shown) { s.o.Code = s.o.Code[min(1, len(s.o.Code)):] }, api.ErrForm},
		{"a code that is long", func(s *shown) { s.o.Code += strings.Repeat("c", 33) }, api.ErrForm},
		{"no kind", func(s *shown) { s.m.Kind = 0 }, api.ErrKind},
		{"lots too long", func(s *shown) { s.m.Lots = strings.Repeat("l", 65) }, api.ErrLong},
		{"no name", func(s *shown) { s.m.Name = "" }, api.ErrForm},
		{"a number of mixes that is none", func(s *shown) { s.m.Mixes = 9 }, api.ErrRange},
		{"two precincts of one name", func(s *shown) { s.m.Precincts[0].Name = "town" }, api.ErrTwice},
		{"a clerk without a key", func(s *shown) { s.m.Clerk = "" }, api.ErrElem},
		{"no key", func(s *shown) { s.key = "" }, api.ErrElem},
		{"a voter who is no word", func(s *shown) { s.o.Voter = "a b" }, api.ErrForm},
		{"a precinct that is none", func(s *shown) { s.o.Precinct = 4 }, api.ErrRange},
		{"a choice too many", func(s *shown) { s.o.Choices = append(s.o.Choices, nil) }, api.ErrForm},
		{"a choice that is too short", func(s *shown) { s.o.Choices[0] = s.o.Choices[0][:2] }, api.ErrForm},
		{"a choice that does not fit", func(s *shown) { s.o.Choices[1][0] = 3 }, api.ErrRange},
		{"another code", func(s *shown) { s.o.Code = strings.Repeat("c", 32) }, api.ErrProof},
	}
}

func TestT2Faults(t *testing.T) {
	for _, kind := range []int{api.Tiny, api.Full} {
		for _, f := range faults() {
			s := rightly(t, kind)
			f.do(&s)
			tells(t, f.what, s.recheck(), f.e)
		}
	}
}

// Of two faults that which is named first is told; of codes that are wrong it is one and the same.
func TestT2TwoFaults(t *testing.T) {
	all := faults()
	for i, first := range all {
		for _, second := range all[i+1:] {
			if strings.Contains(first.what, "code") && strings.Contains(second.what, "code") {
				continue
			}
			s := rightly(t, api.Tiny)
			second.do(&s)
			first.do(&s)
			tells(t, first.what+", and "+second.what, s.recheck(), first.e)
		}
	}
}

// A booth that fills another ballot than it was told, and tells what it was told, is found out, as is one that tells another
// seed so that it would fit.
func TestT2Lies(t *testing.T) {
	s := rightly(t, api.Short)
	other := [][]int{{0, 1, 0}, {0, 0, 1}, {0, 0, 0, 0}, {2, 1}}
	b, _ := ballot.Fill(s.m, s.key, s.o.Voter, s.o.Precinct, other, s.o.Seed)
	s.o.Code = codeModel(s.o.Prev, b)
	tells(t, "a booth that lies", s.recheck(), api.ErrProof)
	for i := range 20 {
		s.o.Seed = fmt.Sprint("seed ", i)
		tells(t, "a booth that lies on", s.recheck(), api.ErrProof)
	}
	s.o.Seed, s.o.Choices = "any seed", other
	tells(t, "a booth that tells the truth", s.recheck(), api.OK)
}

func TestE2Recheck(t *testing.T) {
	s := rightly(t, api.Tiny)
	s.m, s.o.Choices = cloneTown(s.m), roomyLists(s.o.Choices)
	onlyRead(t, "the manifest", s.m, func() { s.recheck() })
	onlyRead(t, "the opening", s.o, func() { s.recheck() })
}
