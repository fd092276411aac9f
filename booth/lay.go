package booth

import (
	"hustings/api"
	"hustings/node"
)

// ballotLeaf is what a ballot begins with.
const ballotLeaf = "ballot"

// layBallot lays the number ahead of the parts: that it is none is told ahead of their being too many.
func layBallot(l *node.Layer, b api.Ballot) api.Node {
	return l.List(l.Text(ballotLeaf), l.Text(b.Voter), l.Number(b.Precinct), node.LayAll(l, b.Parts, layPart))
}

func layPart(l *node.Layer, p api.Part) api.Node {
	return l.List(node.LayAll(l, p.Ciphers, layCipher), node.LayAll(l, p.Proofs, layEither), layEither(l, p.Sum))
}

func layCipher(l *node.Layer, c api.Cipher) api.Node { return l.List(l.Text(c.A), l.Text(c.B)) }

func layEither(l *node.Layer, e api.Either) api.Node {
	return l.List(layTexts(l, e.Challenges), node.LayAll(l, e.Answers, layTexts))
}

func layTexts(l *node.Layer, texts []string) api.Node {
	return node.LayAll(l, texts, (*node.Layer).Text)
}
