package count

import "hustings/api"

// pairMost is the greatest number that may stand in pairs.
const pairMost = 1 << 40

// square is a number for each two options; nothing is wrong with it.
type square [][]int

// withSquare goes on with pairs, if nothing is wrong with them.
func withSquare[A any](pairs [][]int, then func(square) A) (A, api.Errno) {
	if e := wrongPairs(pairs); e != api.OK {
		var none A
		return none, e
	}
	return then(pairs), api.OK
}

// wrongPairs looks at the form of all of them ahead of the numbers.
func wrongPairs(pairs [][]int) api.Errno {
	if len(pairs) < 1 || len(pairs) > optionsMost {
		return api.ErrForm
	}
	for _, row := range pairs {
		if len(row) != len(pairs) {
			return api.ErrForm
		}
	}
	for _, row := range pairs {
		for _, n := range row {
			if n < 0 || n > pairMost {
				return api.ErrRange
			}
		}
	}
	return api.OK
}

// zeros are lists of zeros, as many as each has.
func zeros(n int) [][]int {
	out := make([][]int, n)
	for i := range out {
		out[i] = make([]int, n)
	}
	return out
}

func (s square) beats(i, j int) bool { return s[i][j] > s[j][i] }

// anyBeats tells whether anybody beats i.
func (s square) anyBeats(i int) bool {
	for j := range s {
		if s.beats(j, i) {
			return true
		}
	}
	return false
}

// beaten is what is left where it stands for one who beats the other: the strengths of ways of a single step.
func (s square) beaten() [][]int {
	out := zeros(len(s))
	for i, row := range out {
		for j := range row {
			if s.beats(i, j) {
				row[j] = s[i][j]
			}
		}
	}
	return out
}

// paths are the strengths of the strongest ways: of those through the first options alone, then through one more, till all.
func (s square) paths() [][]int {
	best := s.beaten()
	for via := range best {
		for i, row := range best {
			for j := range row {
				if i != j {
					row[j] = max(row[j], min(row[via], best[via][j]))
				}
			}
		}
	}
	return best
}

// smith is the least set. Of two sets that beat all others one is within the other: so the least of those that must be for
// some option to be in it is the least of all.
func (s square) smith() []int {
	var least []int
	for i := range s {
		if set := s.setWith(i); least == nil || len(set) < len(least) {
			least = set
		}
	}
	return least
}

// setWith is the least set with one option in it: whomever anybody in it does not beat must be in it too.
func (s square) setWith(first int) []int {
	inside := make([]bool, len(s))
	inside[first] = true
	for todo := []int{first}; len(todo) > 0; todo = todo[1:] {
		for j := range s {
			if !inside[j] && !s.beats(todo[0], j) {
				inside[j] = true
				todo = append(todo, j)
			}
		}
	}
	var set []int
	for i, in := range inside {
		if in {
			set = append(set, i)
		}
	}
	return set
}
