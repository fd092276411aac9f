package trust

import (
	"slices"

	"hustings/api"
)

// value is that of a polynomial at x. Its coefficients are in order, that of the lowest power first.
func (g ground) value(coefficients []string, x int) string {
	sum, by := g.number(0), g.number(x)
	for _, n := range slices.Backward(coefficients) {
		sum = g.plus(g.times(sum, by), n)
	}
	return sum
}

// commits are BASE to each of the coefficients: the polynomial lies BEHIND them.
func (g ground) commits(coefficients []string) []string {
	out := make([]string, len(coefficients))
	for k, n := range coefficients {
		out[k] = g.raised(n)
	}
	return out
}

// commitsMost is how many may be handed in.
const commitsMost = 16

// wrongLook is what is wrong with commits, and with the place at which they are looked at.
func (g ground) wrongLook(commits []string, x int) api.Errno {
	switch {
	case len(commits) > commitsMost:
		return api.ErrLong
	case len(commits) == 0:
		return api.ErrForm
	case slices.ContainsFunc(commits, g.noElem):
		return api.ErrElem
	case noPlace(x):
		return api.ErrRange
	}
	return api.OK
}

// seen is BASE to the value at x of the polynomial behind commits.
func (g ground) seen(commits []string, x int) string {
	powers := make([]string, len(commits))
	power, by := g.number(1), g.number(x)
	for k := range powers {
		powers[k] = power
		power = g.times(power, by)
	}
	return g.powers(commits, powers)
}

// fits tells whether a share is the value at x of the polynomial behind commits.
func (g ground) fits(commits []string, x int, share string) bool {
	return !g.noScalar(share) && g.raised(share) == g.seen(commits, x)
}

// added are the commits behind which the sum of two polynomials lies.
func (g ground) added(a, b []string) []string {
	out := make([]string, len(a))
	for k := range out {
		out[k] = g.joined(a[k], b[k])
	}
	return out
}
