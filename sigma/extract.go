package sigma

import (
	"slices"

	"hustings/api"
)

// alone is a proof as one of one set.
func alone(p api.Proof) api.Either {
	return api.Either{Challenges: []string{p.Challenge}, Answers: [][]string{p.Answers}}
}

// wrongPair is what is wrong with two proofs out of which secrets are to come.
func (g ground) wrongPair(a, b api.Either) api.Errno {
	switch {
	case unlike(a, b):
		return api.ErrForm
	case !g.allScalars(a) || !g.allScalars(b):
		return api.ErrScalar
	case slices.Equal(a.Challenges, b.Challenges):
		return api.ErrNone
	}
	return api.OK
}

// unlike tells whether two proofs are not of the same form, or have nothing where something must be.
func unlike(a, b api.Either) bool {
	n := len(a.Challenges)
	return n == 0 || len(b.Challenges) != n || len(a.Answers) != n || !slices.EqualFunc(a.Answers, b.Answers, func(x, y []string) bool {
		return len(x) == len(y) && len(x) > 0
	})
}

// allScalars tells whether a proof's challenges and answers all are some.
func (g ground) allScalars(p api.Either) bool {
	return g.scalars(p.Challenges) && !slices.ContainsFunc(p.Answers, func(l []string) bool { return !g.scalars(l) })
}

// place is the first at which challenges that are not all the same differ.
func place(a, b []string) int {
	i := 0
	for a[i] == b[i] {
		i++
	}
	return i
}

// extract is the secrets of the set at a place at which the challenges differ.
func (g ground) extract(a, b api.Either, i int) []string {
	part := g.inverse(g.minus(a.Challenges[i], b.Challenges[i]))
	return each(both(a.Answers[i], b.Answers[i], g.minus), func(d string) string { return g.times(d, part) })
}
