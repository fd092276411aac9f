// Package fold: texts folded into 32 bytes, and what was said so far: see doc/01-fold.md.
package fold

import "hustings/api"

// Digest is a text folded into 32 bytes.
func Digest(b string) string {
	f := begin("")
	f.add(b)
	return f.end()
}

// Keyed is the same with a key.
func Keyed(key string, b string) (string, api.Errno) {
	if len(key) > keyMost {
		return "", api.ErrLong
	}
	f := begin(key)
	f.add(b)
	return f.end(), api.OK
}

// Tag is the digest of a label and of parts.
func Tag(label string, parts []string) string { return tag(label, parts...) }

// Stream is n bytes that come out of a seed.
func Stream(seed string, label string, n int) (string, api.Errno) {
	if n < 0 || n > streamMost {
		return "", api.ErrRange
	}
	f := begin("")
	f.addParts("stream", seed, label)
	out := make([]byte, n)
	for i := range (n + digestSize - 1) / digestSize {
		// What all tags begin with is folded once: a long seed costs no more than a short one.
		each := f
		each.addParts(four(i))
		copy(out[i*digestSize:], each.end())
	}
	return string(out), api.OK
}

// streamMost is how many bytes a stream may have.
const streamMost = 65536

// tag is Tag for parts that are at hand one by one.
func tag(label string, parts ...string) string {
	f := begin("")
	f.addParts(label)
	f.addParts(parts...)
	return f.end()
}

// four is a number as four bytes, the highest first, modulo 2^32.
func four(n int) string {
	return string([]byte{byte(n >> 24), byte(n >> 16), byte(n >> 8), byte(n)})
}
