package roll

import (
	"slices"

	"hustings/api"
	"hustings/group"
	"hustings/kit"
)

// How many there may be in a manifest.
const (
	contestsMost  = 16
	optionsMost   = 12
	stylesMost    = 16
	placesMost    = 16
	precinctsMost = 64
	trusteesMost  = 8
	mixesMost     = 8
	lotsMost      = 64
)

func within(n, least, most int) bool { return least <= n && n <= most }

func noKind(m api.Manifest) bool {
	_, _, e := group.Sizes(m.Kind)
	return e != api.OK
}

func tooMany(m api.Manifest) bool {
	return len(m.Contests) > contestsMost || len(m.Styles) > stylesMost ||
		len(m.Precincts) > precinctsMost || len(m.Trustees) > trusteesMost ||
		slices.ContainsFunc(m.Contests, func(c api.Contest) bool { return len(c.Options) > optionsMost }) ||
		slices.ContainsFunc(m.Styles, func(s api.Style) bool { return len(s.Contests) > placesMost })
}

func tooFew(m api.Manifest) bool {
	return len(m.Contests) == 0 || len(m.Styles) == 0 || len(m.Precincts) == 0 || len(m.Trustees) == 0 ||
		slices.ContainsFunc(m.Contests, func(c api.Contest) bool { return len(c.Options) == 0 }) ||
		slices.ContainsFunc(m.Styles, func(s api.Style) bool { return len(s.Contests) == 0 })
}

func tooLong(m api.Manifest) bool {
	return len(m.Lots) > lotsMost || slices.ContainsFunc(words(m), func(s string) bool { return len(s) > kit.WordMost })
}

func misshapen(m api.Manifest) bool {
	return slices.ContainsFunc(words(m), func(s string) bool { return !kit.Signs(s) }) ||
		slices.ContainsFunc(m.Styles, func(s api.Style) bool { return !rising(s.Contests) })
}

// words are all texts of a manifest that must be words.
func words(m api.Manifest) []string {
	out := []string{m.Name}
	for _, c := range m.Contests {
		out = append(append(out, c.Name), c.Options...)
	}
	for _, s := range m.Styles {
		out = append(out, s.Name)
	}
	for _, p := range m.Precincts {
		out = append(out, p.Name)
	}
	return out
}

// rising tells whether each number is above the one ahead of it.
func rising(l []int) bool {
	for i := 1; i < len(l); i++ {
		if l[i] <= l[i-1] {
			return false
		}
	}
	return true
}

// outOfRange is asked of a manifest that has as many of everything as it may.
func outOfRange(m api.Manifest) bool {
	noContest := func(place int) bool { return !within(place, 0, len(m.Contests)-1) }
	return !within(m.Need, 1, len(m.Trustees)) || !within(m.Mixes, 0, mixesMost) ||
		slices.ContainsFunc(m.Contests, wrongRule) ||
		slices.ContainsFunc(m.Styles, func(s api.Style) bool { return slices.ContainsFunc(s.Contests, noContest) }) ||
		slices.ContainsFunc(m.Precincts, func(p api.Precinct) bool { return !within(p.Style, 0, len(m.Styles)-1) })
}

// wrongRule tells whether a contest has no rule, or numbers that its rule does not have.
func wrongRule(c api.Contest) bool {
	options := len(c.Options)
	switch c.Rule {
	case api.RulePlural:
		return !within(c.Seats, 1, options) || !within(c.Most, 1, options)
	case api.RuleApproval, api.RuleTransfer:
		return !within(c.Seats, 1, options) || c.Most != 0
	case api.RulePairs:
		return c.Seats != 1 || c.Most != 0
	}
	return true
}

// alike tells whether there are two names that are, among those that must not be.
func alike(m api.Manifest) bool {
	return twice(m.Contests, func(c api.Contest) string { return c.Name }) ||
		twice(m.Styles, func(s api.Style) string { return s.Name }) ||
		twice(m.Precincts, func(p api.Precinct) string { return p.Name }) ||
		slices.ContainsFunc(m.Contests, func(c api.Contest) bool {
			return twice(c.Options, func(option string) string { return option })
		})
}

// twice tells whether two of a list have one name.
func twice[T any](l []T, name func(T) string) bool {
	seen := map[string]struct{}{}
	for _, x := range l {
		seen[name(x)] = struct{}{}
	}
	return len(seen) < len(l)
}

// wrongKey tells whether something that must be a public key is none.
func wrongKey(m api.Manifest) bool {
	none := func(key string) bool { return !group.Member(m.Kind, key) }
	return none(m.Registrar) || none(m.Clerk) || slices.ContainsFunc(m.Trustees, none)
}
