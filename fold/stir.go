package fold

import "math/bits"

// start is what every folding starts with.
var start = [8]uint32{
	0x6a09e667, 0xbb67ae85, 0x3c6ef372, 0xa54ff53a,
	0x510e527f, 0x9b05688c, 0x1f83d9ab, 0x5be0cd19,
}

// orders tells, for each round, in which order the words of a piece come.
var orders = [10][16]uint8{
	{0x0, 0x1, 0x2, 0x3, 0x4, 0x5, 0x6, 0x7, 0x8, 0x9, 0xa, 0xb, 0xc, 0xd, 0xe, 0xf},
	{0xe, 0xa, 0x4, 0x8, 0x9, 0xf, 0xd, 0x6, 0x1, 0xc, 0x0, 0x2, 0xb, 0x7, 0x5, 0x3},
	{0xb, 0x8, 0xc, 0x0, 0x5, 0x2, 0xf, 0xd, 0xa, 0xe, 0x3, 0x6, 0x7, 0x1, 0x9, 0x4},
	{0x7, 0x9, 0x3, 0x1, 0xd, 0xc, 0xb, 0xe, 0x2, 0x6, 0x5, 0xa, 0x4, 0x0, 0xf, 0x8},
	{0x9, 0x0, 0x5, 0x7, 0x2, 0x4, 0xa, 0xf, 0xe, 0x1, 0xb, 0xc, 0x6, 0x8, 0x3, 0xd},
	{0x2, 0xc, 0x6, 0xa, 0x0, 0xb, 0x8, 0x3, 0x4, 0xd, 0x7, 0x5, 0xf, 0xe, 0x1, 0x9},
	{0xc, 0x5, 0x1, 0xf, 0xe, 0xd, 0x4, 0xa, 0x0, 0x7, 0x6, 0x3, 0x9, 0x2, 0x8, 0xb},
	{0xd, 0xb, 0x7, 0xe, 0xc, 0x1, 0x3, 0x9, 0x5, 0x0, 0xf, 0x4, 0x8, 0x6, 0x2, 0xa},
	{0x6, 0xf, 0xe, 0x9, 0xb, 0x3, 0x0, 0x8, 0xc, 0x2, 0xd, 0x7, 0x1, 0x4, 0xa, 0x5},
	{0xa, 0x2, 0x8, 0x4, 0x7, 0x6, 0x1, 0x5, 0xf, 0xb, 0x9, 0xe, 0x3, 0xc, 0xd, 0x0},
}

// places tells which four words each stir of a round is of.
var places = [8][4]uint8{
	{0, 4, 8, 12}, {1, 5, 9, 13}, {2, 6, 10, 14}, {3, 7, 11, 15},
	{0, 5, 10, 15}, {1, 6, 11, 12}, {2, 7, 8, 13}, {3, 4, 9, 14},
}

// Stir stirs sixteen words with sixteen others; Unstir is the way back.
func Stir(v [16]uint32, m [16]uint32) [16]uint32 {
	for r := range len(orders) {
		s := orders[r]
		for i := range len(places) {
			stirFour(&v, places[i], m[s[2*i]], m[s[2*i+1]])
		}
	}
	return v
}

func Unstir(v [16]uint32, m [16]uint32) [16]uint32 {
	for r := range len(orders) {
		s := orders[len(orders)-1-r]
		for k := range len(places) {
			i := len(places) - 1 - k
			unstirFour(&v, places[i], m[s[2*i]], m[s[2*i+1]])
		}
	}
	return v
}

// stirFour is one stir, of four places, with the words x and y.
func stirFour(v *[16]uint32, p [4]uint8, x uint32, y uint32) {
	a, b, c, d := v[p[0]], v[p[1]], v[p[2]], v[p[3]]
	a, b, c, d = half(a, b, c, d, x, 16, 12)
	a, b, c, d = half(a, b, c, d, y, 8, 7)
	v[p[0]], v[p[1]], v[p[2]], v[p[3]] = a, b, c, d
}

// unstirFour takes one stir back.
func unstirFour(v *[16]uint32, p [4]uint8, x uint32, y uint32) {
	a, b, c, d := v[p[0]], v[p[1]], v[p[2]], v[p[3]]
	a, b, c, d = unhalf(a, b, c, d, y, 8, 7)
	a, b, c, d = unhalf(a, b, c, d, x, 16, 12)
	v[p[0]], v[p[1]], v[p[2]], v[p[3]] = a, b, c, d
}

// half is half a stir: with one word, d turned by one number of bits and b by another.
func half(a, b, c, d, x uint32, turnD, turnB int) (uint32, uint32, uint32, uint32) {
	a += b + x
	d = bits.RotateLeft32(d^a, -turnD)
	c += d
	b = bits.RotateLeft32(b^c, -turnB)
	return a, b, c, d
}

// unhalf takes half a stir back, its last step first.
func unhalf(a, b, c, d, x uint32, turnD, turnB int) (uint32, uint32, uint32, uint32) {
	b = bits.RotateLeft32(b, turnB) ^ c
	c -= d
	d = bits.RotateLeft32(d, turnD) ^ a
	a -= b + x
	return a, b, c, d
}

// Press folds sixteen words into eight.
func Press(h [8]uint32, m [16]uint32, n uint64, last bool) [8]uint32 {
	var v [16]uint32
	for i := range len(h) {
		v[i], v[i+8] = h[i], start[i]
	}
	v[12] ^= uint32(n)
	v[13] ^= uint32(n >> 32)
	if last {
		v[14] = ^v[14]
	}
	v = Stir(v, m)
	for i := range len(h) {
		h[i] ^= v[i] ^ v[i+8]
	}
	return h
}
