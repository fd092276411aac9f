package script

import (
	"hustings/api"
	"hustings/node"
)

// TakeBallot takes what is within the list of a ballot.
func TakeBallot(t *node.Taker) api.Ballot {
	t.Leaf(ballotLeaf)
	return api.Ballot{Voter: t.Text(), Precinct: t.Number(), Parts: node.TakeAll(t, takePart)}
}

func takePart(t *node.Taker) api.Part {
	return node.TakeList(t, func(t *node.Taker) api.Part {
		return api.Part{Ciphers: TakeCiphers(t), Proofs: node.TakeAll(t, TakeEither), Sum: TakeEither(t)}
	})
}

// TakeCiphers takes a row of ciphers.
func TakeCiphers(t *node.Taker) []api.Cipher { return node.TakeAll(t, takeCipher) }

func takeCipher(t *node.Taker) api.Cipher {
	return node.TakeList(t, func(t *node.Taker) api.Cipher {
		return api.Cipher{A: t.Text(), B: t.Text()}
	})
}

// TakeEither takes a proof of one of several.
func TakeEither(t *node.Taker) api.Either {
	return node.TakeList(t, func(t *node.Taker) api.Either {
		return api.Either{Challenges: takeTexts(t), Answers: node.TakeAll(t, takeTexts)}
	})
}

// TakeProof takes a proof, or a signature.
func TakeProof(t *node.Taker) api.Proof {
	return node.TakeList(t, func(t *node.Taker) api.Proof {
		return api.Proof{Challenge: t.Text(), Answers: takeTexts(t)}
	})
}

func takeTexts(t *node.Taker) []string { return node.TakeAll(t, (*node.Taker).Text) }
