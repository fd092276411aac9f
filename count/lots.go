package count

import (
	"cmp"
	"slices"

	"hustings/api"
	"hustings/fold"
)

const optionsMost = 12

// wrongContest is what is wrong with a contest; nothing else of it is asked.
func wrongContest(c api.Contest) api.Errno {
	n := len(c.Options)
	if n < 1 || n > optionsMost || noRule(c.Rule) || c.Seats < 1 || c.Seats > n {
		return api.ErrForm
	}
	return api.OK
}

func noRule(rule int) bool { return rule < api.RulePlural || rule > api.RulePairs }

func belowZero(n int) bool { return n < 0 }

// drawn are all options, as they are drawn.
func drawn(c api.Contest, lots string) []int {
	var tags []string
	var options []int
	for i, name := range c.Options {
		tags = append(tags, fold.Tag("lot", []string{lots, c.Name, name}))
		options = append(options, i)
	}
	slices.SortStableFunc(options, func(i, k int) int { return cmp.Compare(tags[i], tags[k]) })
	return options
}

// greatestFirst are options with the greatest total first; those with the same stay as they come, that is as they are drawn.
func greatestFirst[T any](options []int, totals []T, compare func(T, T) int) []int {
	sorted := slices.Clone(options)
	slices.SortStableFunc(sorted, func(i, k int) int { return compare(totals[k], totals[i]) })
	return sorted
}

// most are the options with the greatest totals, as many as there are seats.
func most(c api.Contest, totals []int, lots string) []int {
	return greatestFirst(drawn(c, lots), totals, cmp.Compare[int])[:c.Seats]
}
