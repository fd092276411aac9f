package mix

import "slices"

// eachOnce tells whether a list has each number from 0 on below its length once.
func eachOnce(order []int) bool {
	seen := make([]bool, len(order))
	for _, row := range order {
		if row < 0 || row >= len(order) || seen[row] {
			return false
		}
		seen[row] = true
	}
	return true
}

// crossings tells of each gate of a network whether it is crossed, so that the rows come out in an order.
func crossings(order []int) []bool {
	if len(order) < 2 {
		return nil
	}
	second := goingSecond(order)
	var first, last []bool
	for i := range len(order) / 2 {
		first = append(first, second[2*i])
	}
	for i := range lastGates(order) {
		last = append(last, second[order[2*i]])
	}
	// Of each two rows that come out of a last gate one was in each network within, at that gate's place there.
	var within [2][]int
	for _, row := range order {
		way := 0
		if second[row] {
			way = 1
		}
		within[way] = append(within[way], row/2)
	}
	return slices.Concat(first, crossings(within[0]), crossings(within[1]), last)
}

// goingSecond tells of each row whether it goes through the second one of the two networks within. Of two rows that share a
// first gate or a last one just one does; so does what ends on the last wire, where no gate can change it, and the row
// without a first gate. Who goes from row to row by what they share, from the last wire on, finds no row that can't be
// where it must: the way leads back to where it began, or ends at the row without a first gate.
func goingSecond(order []int) []bool {
	wireOf := make([]int, len(order))
	for wire, row := range order {
		wireOf[row] = wire
	}
	second, placed := make([]bool, len(order)), make([]bool, len(order))
	for _, row := range slices.Backward(order) {
		for !placed[row] {
			second[row], placed[row] = true, true
			other := row ^ 1
			if other == len(order) {
				break // it has no first gate
			}
			placed[other] = true
			row = order[wireOf[other]^1]
		}
	}
	return second
}
