package fold

import "testing"

// Texts of 4 GiB are too long for a test: what counts their bytes is looked at by itself.

func TestF4LengthsWrapRound(t *testing.T) {
	cases := []struct {
		n    int64
		want string
	}{
		{0, "\x00\x00\x00\x00"},
		{1, "\x00\x00\x00\x01"},
		{0x01020304, "\x01\x02\x03\x04"},
		{1<<32 - 1, "\xff\xff\xff\xff"},
		{1 << 32, "\x00\x00\x00\x00"},
		{1<<32 + 0x01020304, "\x01\x02\x03\x04"},
	}
	for _, c := range cases {
		if got := four(int(c.n)); got != c.want {
			t.Errorf("%d as four bytes is %x", c.n, got)
		}
	}
}

func TestF3CountsBeyond32Bits(t *testing.T) {
	f := folder{h: start, n: 1<<32 - 64}
	f.add("abc" + string(make([]byte, 64)))
	h := Press(start, [16]uint32{0x00636261}, 1<<32, false)
	if f.h != h {
		t.Errorf("a piece that ends at 2^32: %08x, not %08x", f.h, h)
	}
	f.end()
	if want := Press(h, [16]uint32{}, 1<<32+3, true); f.h != want {
		t.Errorf("the last one: %08x, not %08x", f.h, want)
	}
}
