package watch

import (
	"slices"

	"hustings/api"
)

// copied is a ballot in other memory.
func copied(b api.Ballot) api.Ballot {
	b.Parts = slices.Clone(b.Parts)
	for i, p := range b.Parts {
		p.Ciphers, p.Proofs, p.Sum = slices.Clone(p.Ciphers), slices.Clone(p.Proofs), copiedProof(p.Sum)
		for k, proof := range p.Proofs {
			p.Proofs[k] = copiedProof(proof)
		}
		b.Parts[i] = p
	}
	return b
}

func copiedProof(p api.Either) api.Either {
	return api.Either{Challenges: slices.Clone(p.Challenges), Answers: copiedLists(p.Answers)}
}

// copiedLists are lists in other memory.
func copiedLists[T any](lists [][]T) [][]T {
	out := slices.Clone(lists)
	for i, l := range out {
		out[i] = slices.Clone(l)
	}
	return out
}
