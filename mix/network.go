package mix

import (
	"slices"

	"hustings/api"
)

// gatesFor is the gates of the network for n rows.
func gatesFor(n int) []api.Gate { return gatesOn(upTo(n)) }

// upTo is the numbers from 0 on that are below n.
func upTo(n int) []int {
	out := make([]int, n)
	for i := range out {
		out[i] = i
	}
	return out
}

// gatesOn is the gates on a list of wires. (On two there is nothing within, and no gate but the first one.)
func gatesOn(wires []int) []api.Gate {
	if len(wires) < 2 {
		return nil
	}
	var first []api.Gate
	var within [2][]int
	for i := 1; i < len(wires); i += 2 {
		first = append(first, api.Gate{X: wires[i-1], Y: wires[i]})
		within[0] = append(within[0], wires[i-1])
		within[1] = append(within[1], wires[i])
	}
	if odd(wires) {
		within[1] = append(within[1], wires[len(wires)-1])
	}
	return slices.Concat(first, gatesOn(within[0]), gatesOn(within[1]), first[:lastGates(wires)])
}

func odd(wires []int) bool { return len(wires)%2 == 1 }

// lastGates is how many gates stand behind the networks within: where all wires go in pairs, the last pair needs none.
func lastGates(wires []int) int { return (len(wires) - 1) / 2 }

// through is what is on the wires in the end, when at each gate what is on its wires becomes what at tells.
func through[T any](gates []api.Gate, start []T, at func(k int, in [2]T) [2]T) []T {
	wires := slices.Clone(start)
	for k, g := range gates {
		out := at(k, [2]T{wires[g.X], wires[g.Y]})
		wires[g.X], wires[g.Y] = out[0], out[1]
	}
	return wires
}

// turned is what a gate makes of two things.
func turned[T any](two [2]T, crossed bool) [2]T {
	if crossed {
		return [2]T{two[1], two[0]}
	}
	return two
}
