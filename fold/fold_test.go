package fold_test

import (
	"encoding/hex"
	"math"
	"slices"
	"strings"
	"testing"

	"hustings/api"
	"hustings/fold"
)

// same tells where bytes are others than those that are written in hexadecimal digits.
func same(t *testing.T, what string, got string, want string) {
	t.Helper()
	if h := hex.EncodeToString([]byte(got)); h != want {
		t.Errorf("%s: %s comes, not %s", what, h, want)
	}
}

// bytesOf is a text of n bytes that are not all alike.
func bytesOf(n int) string {
	b := make([]byte, n)
	for i := range b {
		b[i] = byte(i*7 + n)
	}
	return string(b)
}

// rising is the bytes from 0 on below n.
func rising(n int) string {
	b := make([]byte, n)
	for i := range b {
		b[i] = byte(i)
	}
	return string(b)
}

func TestF3Digest(t *testing.T) {
	cases := []struct{ text, want string }{
		{"", "69217a3079908094e11121d042354a7c1f55b6482ca1a51e1b250dfd1ed0eef9"},
		{"abc", "508c5e8c327c14e2e1a72ba34eeb452f37458b209ed63a294d999b4c86675982"},
		{"\x00", "e34d74dbaf4ff4c6abd871cc220451d2ea2648846c7757fbaac82fe51ad64bea"},
		{strings.Repeat("a", 63), "9a4267618070af968ff2a0fdaecc62b5c15ab91cb4a56424ba9fcad20aab417c"},
		{strings.Repeat("a", 64), "651d2f5f20952eacaea2fba2f2af2bcd633e511ea2d2e4c9ae2ac0d9ffb7b252"},
		{strings.Repeat("a", 65), "045f8ae18932119bd051ac7ba5c73db59892055fad5c32f82d79a6543d92a497"},
		{strings.Repeat("a", 128), "3ac477e27353f9019b81694afe60c8049403784f91a58288428ea318bfa82809"},
		{strings.Repeat("a", 129), "94f03f8feba7e07dd91153d178bb2d254e8cfd445024a77071f9329200d9517c"},
		{rising(256), "5fdeb59f681d975f52c8e69c5502e02a12a3afcc5836ba58f42784c439228781"},
	}
	for _, c := range cases {
		same(t, "Digest", fold.Digest(c.text), c.want)
	}
}

func TestF3DigestOfEveryLength(t *testing.T) {
	var all strings.Builder
	for n := range 260 {
		all.WriteString(fold.Digest(bytesOf(n)))
	}
	same(t, "all digests", fold.Digest(all.String()), "9cb047fbc384ac221d9a15115102a0571ae75bea1c11122da1d0d09127aa3397")
}

func TestF3Keyed(t *testing.T) {
	cases := []struct{ key, text, want string }{
		{"key", "abc", "3f9723437b033bf0c1f4df43cafd0776068cb0a95912de13f3b2952a3aba764d"},
		{"k", "", "e4db13614567e4ed83bed1b46d4d51717081c2eaf18d4b71fd85d487b9572929"},
		{rising(32), "", "48a8997da407876b3d79c0d92325ad3b89cbb754d86ab71aee047ad345fd2c49"},
		{rising(32), rising(64), "8975b0577fd35566d750b362b0897a26c399136df07bababbde6203ff2954ed4"},
		{rising(32), rising(255), "3fb735061abc519dfe979e54c1ee5bfad0a9d858b3315bad34bde999efd724dd"},
		{"", "abc", "508c5e8c327c14e2e1a72ba34eeb452f37458b209ed63a294d999b4c86675982"},
		{"", "", "69217a3079908094e11121d042354a7c1f55b6482ca1a51e1b250dfd1ed0eef9"},
	}
	for _, c := range cases {
		got, e := fold.Keyed(c.key, c.text)
		if e != api.OK {
			t.Errorf("Keyed with a key of %d bytes: error %d", len(c.key), e)
		}
		same(t, "Keyed", got, c.want)
	}
}

func TestF3KeysOfEveryLength(t *testing.T) {
	var all strings.Builder
	for k := range 33 {
		for _, n := range []int{0, 1, 63, 64, 65, 128, 200} {
			got, e := fold.Keyed(bytesOf(k), bytesOf(n))
			if e != api.OK {
				t.Fatalf("a key of %d bytes: error %d", k, e)
			}
			all.WriteString(got)
		}
	}
	same(t, "all keyed digests", fold.Digest(all.String()), "c199abd0ce9086abbe39f1492d88303d6260424ec030cd1757cd692e86ecb16a")
}

func TestF3LongKeys(t *testing.T) {
	for _, n := range []int{33, 64, 65, 1000} {
		if got, e := fold.Keyed(bytesOf(n), "abc"); got != "" || e != api.ErrLong {
			t.Errorf("a key of %d bytes: %x, error %d", n, got, e)
		}
	}
}

func TestF4(t *testing.T) {
	cases := []struct {
		label string
		parts []string
		want  string
	}{
		{"a", []string{"b"}, "d7bb420ad00cc8782f67b31b585ebe185d98cebf42628d02ab0154330ff20a89"},
		{"a", nil, "9a4ebe35bc5a137973c8677d7b168c3056008ce5651ceaf2288bc9b06b939643"},
		{"a", []string{}, "9a4ebe35bc5a137973c8677d7b168c3056008ce5651ceaf2288bc9b06b939643"},
		{"", nil, "4cd90cc0d54239ee5b3fd9989b4ef4cbebbbdd08410758cbd2d291fa364c82d5"},
		{"", []string{""}, "50dfdb12f464323c96af88ff5e8d90c5a1e7a04cdcf99d7cbcf9a271f08a766d"},
		{"ab", []string{"c"}, "752e7df0144bdce8bc4a5f6536bd5f2c28692eb58fa8ba68e229eace062842f1"},
		{"a", []string{"bc"}, "12c42aa2a6649d3a0a55dd0ec4efff4bfd582b20f108738caddc4b1b32caf288"},
		{"a", []string{"b", "c"}, "8568781b47f624673e46241f65849c6ada2cea8a664749e0f0e16b4cd6009944"},
		{"a", []string{strings.Repeat("x", 300), "\xff\x00"}, "176528e548ecaeffebe6bdfb4e81adefaf9ac1a155dbc6595aa61d072a75e577"},
	}
	for _, c := range cases {
		same(t, "Tag of "+c.label, fold.Tag(c.label, c.parts), c.want)
	}
}

func TestF4IsADigest(t *testing.T) {
	want := fold.Digest("\x00\x00\x00\x01a" + "\x00\x00\x00\x02bc" + "\x00\x00\x00\x00" + "\x00\x00\x01\x01" + bytesOf(257))
	if fold.Tag("a", []string{"bc", "", bytesOf(257)}) != want {
		t.Error("Tag is another digest than that of lengths and texts")
	}
}

func TestF4OnlyReads(t *testing.T) {
	parts := []string{"a", "b", "spare", "room"}
	first := fold.Tag("l", parts[:2])
	if !slices.Equal(parts, []string{"a", "b", "spare", "room"}) {
		t.Errorf("the parts have become %q", parts)
	}
	if fold.Tag("l", []string{"a", "b"}) != first {
		t.Error("what lies behind the parts is part of their tag")
	}
}

func TestF5(t *testing.T) {
	got, e := fold.Stream("seed", "x", 40)
	if e != api.OK {
		t.Errorf("error %d", e)
	}
	same(t, "Stream of 40", got, "b2840f659d7349d95b7cd89c5b30a6a4033a9690890270fd67ddccda4ee6ec0d22bee63ebd34891b")
	cases := []struct {
		n    int
		want string
	}{
		{1, "11a5dceb535194567d2bd7197e61416834d7fbce5097b482d941c73282c2a0dc"},
		{31, "b702565e0e70a1e2995c8a1cf62c42686e91db385a9bf1b0e1852386ac1a38c5"},
		{32, "b71ef3b2ee375cbd7698426db96abb034ee0c7619d3beac7048ff1d4e63e033a"},
		{33, "4f244a0598f6c730264365dcb52ef106c27b13162b1aa8e02fa5d7967425d7fb"},
		{65535, "18de7d661f905dea36774a833d82a9797004c7e53c4d01278e5ab2fa3c04e5a6"},
		{65536, "ee248850ee4aa87db3ed4010c53e99840da56245fd216b9dcd5264ce7ff6ac09"},
	}
	for _, c := range cases {
		got, e := fold.Stream("seed", "x", c.n)
		if e != api.OK || len(got) != c.n {
			t.Errorf("Stream of %d: %d bytes, error %d", c.n, len(got), e)
		}
		same(t, "digest of a stream", fold.Digest(got), c.want)
	}
}

func TestF5IsTags(t *testing.T) {
	seed, label := bytesOf(70), bytesOf(3)
	got, e := fold.Stream(seed, label, 300*32)
	if e != api.OK {
		t.Fatalf("error %d", e)
	}
	for i := range 300 {
		want := fold.Tag("stream", []string{seed, label, string([]byte{0, 0, byte(i >> 8), byte(i)})})
		if got[i*32:i*32+32] != want {
			t.Errorf("the part with number %d is another one", i)
		}
	}
}

func TestF5Edges(t *testing.T) {
	if got, e := fold.Stream("seed", "x", 0); got != "" || e != api.OK {
		t.Errorf("a stream of nothing: %x, error %d", got, e)
	}
	for _, n := range []int{-1, 65537, math.MinInt, math.MaxInt} {
		if got, e := fold.Stream("seed", "x", n); got != "" || e != api.ErrRange {
			t.Errorf("a stream of %d: %d bytes, error %d", n, len(got), e)
		}
	}
}
