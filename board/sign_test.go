package board_test

import (
	"fmt"
	"slices"
	"strings"
	"testing"

	"hustings/api"
	"hustings/board"
	"hustings/fold"
	"hustings/group"
	"hustings/sigma"
)

// signer is somebody who signs heads.
type signer struct {
	kind           int
	secret, public string
}

func signers(t *testing.T, do func(t *testing.T, s signer)) {
	for kind, name := range []string{api.Tiny: "Tiny", api.Short: "Short", api.Full: "Full"} {
		if name != "" {
			secret, _ := group.Number(kind, 77)
			public, _ := sigma.Public(kind, secret)
			t.Run(name, func(t *testing.T) { do(t, signer{kind, secret, public}) })
		}
	}
}

// stampModel is the stamp as the document tells it.
func (s signer) stampModel(t *testing.T, name string, size int, head, seed string) api.Stamp {
	t.Helper()
	n := string([]byte{byte(size >> 24), byte(size >> 16), byte(size >> 8), byte(size)})
	sign, e := sigma.Sign(s.kind, s.secret, fold.Tag("stamp", []string{name, n, head}), seed)
	if e != api.OK {
		t.Fatalf("Sign of chapter 5: error %d", e)
	}
	return api.Stamp{Size: size, Head: head, Sign: sign}
}

func noStamp(s api.Stamp) bool {
	return s.Size == 0 && s.Head == "" && s.Sign.Challenge == "" && len(s.Sign.Answers) == 0
}

func noHeads() []string {
	return []string{"", "h", strings.Repeat("h", 31), strings.Repeat("h", 33), strings.Repeat("h", 64), strings.Repeat("h", 4000)}
}

func noSizes() []int {
	return []int{-1, api.MaxEntries + 1, 1 << 32, 1<<32 + 5, least, most}
}

func TestB4Sign(t *testing.T) {
	head := headOf(entriesOf(5))
	signers(t, func(t *testing.T, s signer) {
		for _, size := range []int{0, 1, 5, 256, 65537, api.MaxEntries} {
			for _, name := range []string{"", "name", strings.Repeat("long", 99)} {
				for _, seed := range []string{"", "seed"} {
					got, e := board.Sign(s.kind, s.secret, name, size, head, seed)
					same(t, fmt.Sprint(size, name, seed), got, e, s.stampModel(t, name, size, head, seed))
					if !board.Signed(s.kind, s.public, name, got) {
						t.Errorf("%d %s %s: not signed", size, name, seed)
					}
				}
			}
		}
	})
}

func TestB4SignWrong(t *testing.T) {
	head := headOf(nil)
	signers(t, func(t *testing.T, s signer) {
		wrong := func(want api.Errno, kind int, secret string, size int, head string) {
			t.Helper()
			got, e := board.Sign(kind, secret, "name", size, head, "seed")
			fails(t, fmt.Sprint(kind, size, len(head)), noStamp(got), e, want)
		}
		for _, kind := range []int{0, -1, 4, 257, least, most} {
			wrong(api.ErrKind, kind, s.secret, 5, head)
			wrong(api.ErrKind, kind, "x", -1, "h")
		}
		for _, secret := range []string{"", "x", s.secret + "\x00", s.secret[1:], strings.Repeat("\xff", len(s.secret))} {
			wrong(api.ErrScalar, s.kind, secret, 5, head)
			wrong(api.ErrScalar, s.kind, secret, -1, "h")
		}
		for _, size := range noSizes() {
			wrong(api.ErrRange, s.kind, s.secret, size, head)
			wrong(api.ErrRange, s.kind, s.secret, size, "h")
		}
		for _, head := range noHeads() {
			wrong(api.ErrForm, s.kind, s.secret, 5, head)
		}
	})
}

func TestB4Signed(t *testing.T) {
	// In the small groups another text may be signed by chance: there is nothing to be seen there.
	s := signer{kind: api.Full}
	s.secret, _ = group.Number(s.kind, 77)
	s.public, _ = sigma.Public(s.kind, s.secret)
	other, _ := group.Number(s.kind, 78)
	another, _ := sigma.Public(s.kind, other)
	head := headOf(entriesOf(5))
	stamp := s.stampModel(t, "name", 5, head, "seed")
	if !board.Signed(s.kind, s.public, "name", stamp) {
		t.Fatal("not signed")
	}
	for _, kind := range []int{0, -1, 4, api.Tiny, api.Short, least, most} {
		if board.Signed(kind, s.public, "name", stamp) {
			t.Errorf("signed with the kind %d", kind)
		}
	}
	for _, public := range []string{"", "x", another, s.public[1:], s.public + "\x00", strings.Repeat("\x00", 32), strings.Repeat("\xff", 32)} {
		if board.Signed(s.kind, public, "name", stamp) {
			t.Errorf("signed with the key %x", public)
		}
	}
	for _, name := range []string{"", "names", "nam"} {
		if board.Signed(s.kind, s.public, name, stamp) {
			t.Errorf("signed with the name %s", name)
		}
	}
	for what, changed := range changedStamps(stamp) {
		if board.Signed(s.kind, s.public, "name", changed) {
			t.Errorf("signed: %s", what)
		}
	}
}

// changedStamps are stamps that are not right where one is.
func changedStamps(right api.Stamp) map[string]api.Stamp {
	out := map[string]api.Stamp{}
	put := func(what string, change func(s *api.Stamp)) {
		s := right
		s.Sign.Answers = slices.Clone(s.Sign.Answers)
		change(&s)
		out[what] = s
	}
	put("nothing", func(s *api.Stamp) { *s = api.Stamp{} })
	put("another size", func(s *api.Stamp) { s.Size++ })
	put("another head", func(s *api.Stamp) { s.Head = headOf(entriesOf(6)) })
	put("another challenge", func(s *api.Stamp) { s.Sign.Challenge = s.Sign.Answers[0] })
	put("another answer", func(s *api.Stamp) { s.Sign.Answers[0] = s.Sign.Challenge })
	put("no answer", func(s *api.Stamp) { s.Sign.Answers = nil })
	put("one answer more", func(s *api.Stamp) { s.Sign.Answers = append(s.Sign.Answers, s.Sign.Challenge) })
	return out
}

// A size or a head that may not be is not signed, whatever the signature is.
func TestB4SignedWrong(t *testing.T) {
	signers(t, func(t *testing.T, s signer) {
		head := headOf(nil)
		for _, size := range noSizes() {
			if board.Signed(s.kind, s.public, "name", s.stampModel(t, "name", size, head, "seed")) {
				t.Errorf("signed with the size %d", size)
			}
		}
		for _, head := range noHeads() {
			if board.Signed(s.kind, s.public, "name", s.stampModel(t, "name", 5, head, "seed")) {
				t.Errorf("signed with a head of %d bytes", len(head))
			}
		}
	})
}

func TestB4Split(t *testing.T) {
	signers(t, func(t *testing.T, s signer) {
		one, two := headOf(entriesOf(5)), headOf(append(entriesOf(4), "other"))
		a, b := s.stampModel(t, "name", 5, one, "seed"), s.stampModel(t, "name", 5, two, "seed")
		again := s.stampModel(t, "name", 5, one, "another seed")
		later := s.stampModel(t, "name", 6, two, "seed")
		split := func(want bool, what string, kind int, public string, a, b api.Stamp) {
			t.Helper()
			if board.Split(kind, public, "name", a, b) != want || board.Split(kind, public, "name", b, a) != want {
				t.Errorf("%s: not %t", what, want)
			}
		}
		split(true, "two faces", s.kind, s.public, a, b)
		split(false, "one stamp", s.kind, s.public, a, a)
		split(false, "one face, signed twice", s.kind, s.public, a, again)
		split(false, "two sizes", s.kind, s.public, a, later)
		split(false, "no kind", 0, s.public, a, b)
		split(false, "no key", s.kind, "x", a, b)
		split(false, "a stamp that is nothing", s.kind, s.public, a, api.Stamp{Size: 5})
		split(false, "two that are nothing", s.kind, s.public, api.Stamp{Head: "a"}, api.Stamp{Head: "b"})
		for _, size := range noSizes() {
			split(false, "sizes that may not be", s.kind, s.public, s.stampModel(t, "name", size, one, "seed"), s.stampModel(t, "name", size, two, "seed"))
		}
		split(false, "a head that may not be", s.kind, s.public, a, s.stampModel(t, "name", 5, "h", "seed"))
		if s.kind == api.Full {
			split(false, "another name's", s.kind, s.public, a, s.stampModel(t, "other", 5, two, "seed"))
		}
	})
}

func TestE2Stamp(t *testing.T) {
	signers(t, func(t *testing.T, s signer) {
		a, _ := board.Sign(s.kind, s.secret, "name", 5, headOf(nil), "seed")
		kept := a
		kept.Sign.Answers = slices.Clone(a.Sign.Answers)
		board.Signed(s.kind, s.public, "name", a)
		board.Split(s.kind, s.public, "name", a, a)
		same(t, "a stamp that was looked at", a, api.OK, kept)
		a.Sign.Answers[0] = "changed"
		b, e := board.Sign(s.kind, s.secret, "name", 5, headOf(nil), "seed")
		same(t, "Sign again", b, e, kept)
	})
}
