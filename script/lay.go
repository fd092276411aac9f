// Package script: how what is hidden, proven and signed is laid into nodes that are written down, and taken out of them
// again: by ballots (chapter 10), and by all entries of a record (chapter 15).
package script

import (
	"hustings/api"
	"hustings/node"
)

// ballotLeaf is what a ballot begins with.
const ballotLeaf = "ballot"

// LayBallot lays the number ahead of the parts: that it is none is told ahead of their being too many.
func LayBallot(l *node.Layer, b api.Ballot) api.Node {
	return l.List(l.Text(ballotLeaf), l.Text(b.Voter), l.Number(b.Precinct), node.LayAll(l, b.Parts, layPart))
}

func layPart(l *node.Layer, p api.Part) api.Node {
	return l.List(LayCiphers(l, p.Ciphers), node.LayAll(l, p.Proofs, LayEither), LayEither(l, p.Sum))
}

// LayCiphers lays a row of ciphers.
func LayCiphers(l *node.Layer, row []api.Cipher) api.Node { return node.LayAll(l, row, layCipher) }

func layCipher(l *node.Layer, c api.Cipher) api.Node { return l.List(l.Text(c.A), l.Text(c.B)) }

// LayEither lays a proof of one of several.
func LayEither(l *node.Layer, e api.Either) api.Node {
	return l.List(layTexts(l, e.Challenges), node.LayAll(l, e.Answers, layTexts))
}

// LayProof lays a proof, or a signature.
func LayProof(l *node.Layer, p api.Proof) api.Node {
	return l.List(l.Text(p.Challenge), layTexts(l, p.Answers))
}

func layTexts(l *node.Layer, texts []string) api.Node {
	return node.LayAll(l, texts, (*node.Layer).Text)
}
