package fold_test

import (
	"testing"

	"hustings/fold"
)

// twoLists is two lists of words that are not all alike.
func twoLists() (v [16]uint32, m [16]uint32) {
	for i := range uint32(16) {
		v[i], m[i] = i*0x01234567+0x89abcdef, 0xfedcba98-i*i*0x01010101
	}
	return v, m
}

// ones is words of which all bits are set.
func ones() (v [16]uint32) {
	for i := range v {
		v[i] = 0xffffffff
	}
	return v
}

func TestF1Stir(t *testing.T) {
	v, m := twoLists()
	want := [16]uint32{
		0x0b2e7833, 0xd606ce37, 0x72a3bcff, 0x9800a9fe, 0x8f70f86a, 0x74db7eea, 0x9663afc2, 0x4ee71148,
		0xc1254cd7, 0xc7d38e6b, 0x4afe5ae5, 0xe6d6183e, 0x7c8afc2d, 0x35a25f8d, 0xf244c487, 0x062034b1,
	}
	if got := fold.Stir(v, m); got != want {
		t.Errorf("%08x comes", got)
	}
	if got := fold.Stir([16]uint32{}, [16]uint32{}); got != [16]uint32{} {
		t.Errorf("of zeros %08x comes", got)
	}
	want = [16]uint32{
		0xebc2961b, 0xebc2961b, 0xebc2961b, 0xebc2961b, 0x2f61642c, 0x2f61642c, 0x2f61642c, 0x2f61642c,
		0x53587421, 0x53587421, 0x53587421, 0x53587421, 0x3cd6f2be, 0x3cd6f2be, 0x3cd6f2be, 0x3cd6f2be,
	}
	if got := fold.Stir(ones(), ones()); got != want {
		t.Errorf("of ones %08x comes", got)
	}
}

func TestF1Unstir(t *testing.T) {
	v, m := twoLists()
	for k := range 100 {
		if got := fold.Unstir(fold.Stir(v, m), m); got != v {
			t.Fatalf("time %d: Unstir of Stir of %08x is %08x", k, v, got)
		}
		if got := fold.Stir(fold.Unstir(v, m), m); got != v {
			t.Fatalf("time %d: Stir of Unstir of %08x is %08x", k, v, got)
		}
		v, m = fold.Stir(v, m), v
	}
	if got := fold.Unstir(fold.Stir(ones(), ones()), ones()); got != ones() {
		t.Errorf("of ones %08x comes back", got)
	}
}

func TestF2(t *testing.T) {
	v, m := twoLists()
	h := [8]uint32(v[:8])
	cases := []struct {
		n    uint64
		last bool
		want [8]uint32
	}{
		{0, false, [8]uint32{0xabfe1ed8, 0xc499e43e, 0xe0b4d4d6, 0xd6943e9a, 0x17f9ae89, 0x3dadfd77, 0x3fa45327, 0xc8ed3b6f}},
		{0, true, [8]uint32{0xdf2101c1, 0xa0094245, 0x58254276, 0x1a82cd96, 0x9adfeade, 0xc1d14a1d, 0xa68a007d, 0x6f14cd9b}},
		{64, false, [8]uint32{0x8474a4e0, 0x7e08a4cf, 0x040156f6, 0x06a8772e, 0x93c450a3, 0x6c742ad2, 0x96edc866, 0x304643b1}},
		{1 << 32, false, [8]uint32{0x2e52ebf3, 0xa27e3bdc, 0xe62461e6, 0x50767e4b, 0xead9e17d, 0x18ba1907, 0xa581b8f5, 0x2c93808c}},
		{1<<64 - 1, true, [8]uint32{0x4bec46ad, 0x83647588, 0xc864adbf, 0x6f11757c, 0x404e0729, 0x955b3af4, 0xc50aaa2c, 0x3280a89e}},
		{0x0123456789abcdef, false, [8]uint32{0x0a2ffd76, 0x3c96981a, 0x9da05ea6, 0x23499621, 0x16be774d, 0xe4408e15, 0x2e93a1eb, 0x7d2c0772}},
		{0x0123456789abcdef, true, [8]uint32{0xea2ab0fa, 0x8c38f614, 0x1d021f02, 0xd381d7b2, 0xbff43857, 0xd711dc1a, 0xdd82650a, 0x67f41b1c}},
	}
	for _, c := range cases {
		if got := fold.Press(h, m, c.n, c.last); got != c.want {
			t.Errorf("Press with %#x, %t: %08x comes", c.n, c.last, got)
		}
	}
}

func TestF2OfAKnownText(t *testing.T) {
	h := [8]uint32{0x6b08e647, 0xbb67ae85, 0x3c6ef372, 0xa54ff53a, 0x510e527f, 0x9b05688c, 0x1f83d9ab, 0x5be0cd19}
	want := [8]uint32{0x8c5e8c50, 0xe2147c32, 0xa32ba7e1, 0x2f45eb4e, 0x208b4537, 0x293ad69e, 0x4c9b994d, 0x82596786}
	if got := fold.Press(h, [16]uint32{0x00636261}, 3, true); got != want {
		t.Errorf("of abc %08x comes", got)
	}
}
