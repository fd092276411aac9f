package tally

import (
	"hustings/api"
	"hustings/sigma"
	"hustings/trust"
)

// What is asked here of a manifest is asked of one that nothing is wrong with: so what is reckoned with its keys goes well,
// and no error is asked for.

func noTrustee(m api.Manifest, n int) bool { return n < 1 || n > len(m.Trustees) }

// public is the public key of a trustee.
func public(m api.Manifest, trustee int) string { return m.Trustees[trustee-1] }

// wrongSecret is what is wrong with the secret of a trustee.
func wrongSecret(m api.Manifest, trustee int, secret string) api.Errno {
	if noTrustee(m, trustee) {
		return api.ErrRange
	}
	key, e := sigma.Public(m.Kind, secret)
	if e == api.OK && key != public(m, trustee) {
		e = api.ErrProof
	}
	return e
}

// keyOf is what any Need trustees give together. Few of all choices are looked at: the first trustees, and these with each
// other one in the place of their last. One whose key is not what the first ones' keys make of it gives something else
// there; where there is none such, all choices give the same.
func keyOf(m api.Manifest) (string, api.Errno) {
	var chosen []int
	for trustee := 1; trustee <= m.Need; trustee++ {
		chosen = append(chosen, trustee)
	}
	key := keyBy(m, chosen)
	for other := m.Need + 1; other <= len(m.Trustees); other++ {
		chosen[m.Need-1] = other
		if keyBy(m, chosen) != key {
			return "", api.ErrProof
		}
	}
	return key, api.OK
}

// keyBy is what some trustees give together.
func keyBy(m api.Manifest, trustees []int) string {
	var publics []string
	for _, trustee := range trustees {
		publics = append(publics, public(m, trustee))
	}
	key, _ := trust.Together(m.Kind, trustees, publics)
	return key
}
