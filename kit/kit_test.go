package kit_test

import (
	"strings"
	"testing"

	"hustings/api"
	"hustings/fold"
	"hustings/group"
	"hustings/kit"
)

func TestF4Four(t *testing.T) {
	cases := []struct {
		n    int
		want string
	}{
		{0, "\x00\x00\x00\x00"},
		{1, "\x00\x00\x00\x01"},
		{0x01020304, "\x01\x02\x03\x04"},
		{1<<32 - 1, "\xff\xff\xff\xff"},
		{1<<32 + 0x01020304, "\x01\x02\x03\x04"},
		{-1, "\xff\xff\xff\xff"},
		{-1 << 63, "\x00\x00\x00\x00"},
	}
	for _, c := range cases {
		if got := kit.Four(c.n); got != c.want {
			t.Errorf("%d as four bytes is %x", c.n, got)
		}
	}
}

func TestR1Word(t *testing.T) {
	for b := range 256 {
		want := b > ' ' && b < 127
		for _, s := range []string{string([]byte{byte(b)}), "a" + string([]byte{byte(b)}), string([]byte{byte(b)}) + "a"} {
			if kit.Word(s) != want || kit.Signs(s) != want {
				t.Errorf("%q is a word: %t, of its signs: %t", s, kit.Word(s), kit.Signs(s))
			}
		}
	}
	for n, want := range map[int]bool{0: false, 1: true, 32: true, 33: false, 1 << 20: false} {
		s := strings.Repeat("!", n)
		if kit.Word(s) != want || kit.Signs(s) != (n > 0) {
			t.Errorf("%d bytes are a word: %t, of its signs: %t", n, kit.Word(s), kit.Signs(s))
		}
	}
}

func TestH2Chance(t *testing.T) {
	for _, kind := range []int{api.Tiny, api.Short, api.Full} {
		for _, i := range []int{0, 1, 255, 256, 1 << 20} {
			four := string([]byte{0, byte(i >> 16), byte(i >> 8), byte(i)})
			b, _ := fold.Stream(fold.Tag("label", []string{"seed", four}), "chance", 64)
			want, _ := group.Reduce(kind, b)
			if got := kit.Chance(kind, "seed", "label", i); got != want {
				t.Errorf("%d of kind %d: %x comes, not %x", i, kind, got, want)
			}
		}
	}
}

func TestB1Digests(t *testing.T) {
	a, b := kit.EntryDigest("a"), kit.EntryDigest("b")
	if a != fold.Tag("entry", []string{"a"}) || kit.BlockDigest(a, b) != fold.Tag("block", []string{a, b}) {
		t.Error("a digest is another one")
	}
	cover := []string{kit.BlockDigest(a, b), a}
	if kit.Head(3, cover) != fold.Tag("head", []string{"\x00\x00\x00\x03", cover[0], cover[1]}) || kit.Head(0, nil) != fold.Tag("head", []string{"\x00\x00\x00\x00"}) {
		t.Error("a head is another one")
	}
}

func TestC2Ranks(t *testing.T) {
	for rule, want := range map[int]bool{
		api.RulePlural: false, api.RuleApproval: false, api.RuleTransfer: true, api.RulePairs: true, 0: false, 5: false, -1: false,
	} {
		if kit.Ranks(api.Contest{Rule: rule}) != want {
			t.Errorf("ranks of rule %d: %t comes", rule, !want)
		}
	}
}
