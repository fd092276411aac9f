// Package kit: what several chapters speak of and no layer's face has: numbers as four bytes, words, what comes by chance,
// digests of entries, contests with ranks.
package kit

import (
	"hustings/api"
	"hustings/fold"
	"hustings/group"
)

// Four is a number as four bytes, the highest first, modulo 2^32.
func Four(n int) string {
	return string([]byte{byte(n >> 24), byte(n >> 16), byte(n >> 8), byte(n)})
}

// WordMost is how many bytes a word may have.
const WordMost = 32

// Word tells whether a text is a word (chapter 8).
func Word(s string) bool { return len(s) <= WordMost && Signs(s) }

// Signs tells whether a text is of what words are made of, however long it is.
func Signs(s string) bool {
	for i := range len(s) {
		if s[i] < 33 || s[i] > 126 {
			return false
		}
	}
	return s != ""
}

// chanceBytes are so many more than a scalar has that none is likelier than another one.
const chanceBytes = 64

// Chance is a scalar that comes out of a seed (chapter 6), of a kind that there is.
func Chance(kind int, seed, label string, i int) string {
	b, _ := fold.Stream(fold.Tag(label, []string{seed, Four(i)}), "chance", chanceBytes)
	n, _ := group.Reduce(kind, b)
	return n
}

// EntryDigest is that of a block of one entry (chapter 7).
func EntryDigest(entry string) string { return fold.Tag("entry", []string{entry}) }

// BlockDigest is that of a block whose halves have these digests.
func BlockDigest(first, second string) string { return fold.Tag("block", []string{first, second}) }

// Head is that of so many entries, the cover of which has these digests.
func Head(size int, cover []string) string {
	return fold.Tag("head", append([]string{Four(size)}, cover...))
}

// Ranks tells whether a contest is one in which options are ranked (chapter 9).
func Ranks(c api.Contest) bool { return c.Rule == api.RuleTransfer || c.Rule == api.RulePairs }
