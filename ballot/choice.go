package ballot

import (
	"hustings/api"
	"hustings/kit"
)

// top is the greatest number that an option can have.
func top(c api.Contest) int {
	if kit.Ranks(c) {
		return len(c.Options)
	}
	return 1
}

// fits tells whether a choice with a number for each option fits.
func fits(c api.Contest, choice []int) bool {
	if kit.Ranks(c) {
		return ranked(choice)
	}
	marks := 0
	for _, x := range choice {
		if x != 0 && x != 1 {
			return false
		}
		marks += x
	}
	return c.Rule != api.RulePlural || marks <= c.Most
}

// ranked tells whether the numbers that are not 0 are 1, 2 and so on, each once. Then none is above how many they are.
func ranked(choice []int) bool {
	k := 0
	for _, x := range choice {
		if x != 0 {
			k++
		}
	}
	seen := make([]bool, k+1)
	for _, x := range choice {
		if x < 0 || x > k || x > 0 && seen[x] {
			return false
		}
		seen[x] = true
	}
	return true
}
