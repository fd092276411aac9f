package booth

import (
	"hustings/api"
	"hustings/node"
)

func takeBallot(t *node.Taker) api.Ballot {
	t.Leaf(ballotLeaf)
	return api.Ballot{Voter: t.Text(), Precinct: t.Number(), Parts: node.TakeAll(t, takePart)}
}

func takePart(t *node.Taker) api.Part {
	return node.TakeList(t, func(t *node.Taker) api.Part {
		return api.Part{Ciphers: node.TakeAll(t, takeCipher), Proofs: node.TakeAll(t, takeEither), Sum: takeEither(t)}
	})
}

func takeCipher(t *node.Taker) api.Cipher {
	return node.TakeList(t, func(t *node.Taker) api.Cipher {
		return api.Cipher{A: t.Text(), B: t.Text()}
	})
}

func takeEither(t *node.Taker) api.Either {
	return node.TakeList(t, func(t *node.Taker) api.Either {
		return api.Either{Challenges: takeTexts(t), Answers: node.TakeAll(t, takeTexts)}
	})
}

func takeTexts(t *node.Taker) []string { return node.TakeAll(t, (*node.Taker).Text) }
