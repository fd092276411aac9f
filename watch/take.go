package watch

import (
	"hustings/api"
	"hustings/node"
	"hustings/script"
)

func takeChange(t *node.Taker) api.Change {
	return api.Change{Do: t.Number(), Id: t.Text(), Precinct: t.Number(), Key: t.Text(), Sign: script.TakeProof(t)}
}

func takeStamp(t *node.Taker) api.Stamp {
	return api.Stamp{Size: t.Number(), Head: t.Text(), Sign: script.TakeProof(t)}
}

func takeCast(t *node.Taker) api.Cast {
	return api.Cast{Ballot: node.TakeList(t, script.TakeBallot), Prev: t.Text(), Code: t.Text(), Sign: script.TakeProof(t)}
}

func takeOpened(t *node.Taker) api.Opening {
	return api.Opening{
		Voter:    t.Text(),
		Precinct: t.Number(),
		Choices:  node.TakeAll(t, takeChoice),
		Seed:     t.Text(),
		Prev:     t.Text(),
		Code:     t.Text(),
	}
}

func takeChoice(t *node.Taker) []int { return node.TakeAll(t, (*node.Taker).Number) }

func takeMixing(t *node.Taker) mixing {
	contest := t.Number()
	return mixing{takeMixed(t), contest}
}

func takeMixed(t *node.Taker) api.Mixed {
	return api.Mixed{
		Pairs:  node.TakeAll(t, takePair),
		Proofs: node.TakeAll(t, script.TakeEither),
		Out:    node.TakeAll(t, script.TakeCiphers),
	}
}

func takePair(t *node.Taker) [2][]api.Cipher {
	return node.TakeList(t, func(t *node.Taker) [2][]api.Cipher {
		return [2][]api.Cipher{script.TakeCiphers(t), script.TakeCiphers(t)}
	})
}

func takePart(t *node.Taker) part {
	which := t.Number()
	return part{api.Share{Trustee: t.Number(), Value: t.Text(), Proof: script.TakeProof(t)}, which}
}
