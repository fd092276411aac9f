package trust

import (
	"slices"

	"hustings/api"
)

// Limits of what is handed in.
const (
	placesMost = 16  // so many in a list
	placeLast  = 255 // from 0 on
)

// places is a right list of them, in a group.
type places struct {
	ground
	at []int
}

// placesOf is the places that numbers are, in the group of a kind.
func placesOf(kind int, at []int) (places, api.Errno) {
	g, e := groundOf(kind)
	switch {
	case e != api.OK:
		return places{}, e
	case len(at) > placesMost:
		return places{}, api.ErrLong
	case len(at) == 0:
		return places{}, api.ErrForm
	case slices.ContainsFunc(at, noPlace):
		return places{}, api.ErrRange
	case twice(at):
		return places{}, api.ErrTwice
	}
	return places{g, at}, api.OK
}

func noPlace(x int) bool { return x < 0 || x > placeLast }

// twice tells whether two places are the same.
func twice(at []int) bool {
	for i, x := range at {
		if slices.Contains(at[:i], x) {
			return true
		}
	}
	return false
}

// wrongScalars is what is wrong with scalars beside the places.
func (p places) wrongScalars(values []string) api.Errno {
	switch {
	case len(values) != len(p.at):
		return api.ErrForm
	case slices.ContainsFunc(values, p.noScalar):
		return api.ErrScalar
	}
	return api.OK
}

// wrongElems is what is wrong with elements beside the places.
func (p places) wrongElems(values []string) api.Errno {
	switch {
	case len(values) != len(p.at):
		return api.ErrForm
	case slices.ContainsFunc(values, p.noElem):
		return api.ErrElem
	}
	return api.OK
}

// weights are what the values at the places are multiplied by, so that these together are the value at x.
func (p places) weights(x int) []string {
	out := make([]string, len(p.at))
	for i, here := range p.at {
		out[i] = p.weight(here, x)
	}
	return out
}

// weight is the value at x of the polynomial that is 1 at one of the places, and 0 at all others.
func (p places) weight(here, x int) string {
	above, below := p.number(1), p.number(1)
	for _, y := range p.at {
		if y != here {
			above = p.times(above, p.number(y-x))
			below = p.times(below, p.number(y-here))
		}
	}
	return p.over(above, below)
}

// through is the value at x of the polynomial that goes through values at the places.
func (p places) through(values []string, x int) string {
	sum := p.number(0)
	for i, weight := range p.weights(x) {
		sum = p.plus(sum, p.times(weight, values[i]))
	}
	return sum
}

// together is the same at 0, of elements.
func (p places) together(values []string) string { return p.powers(values, p.weights(0)) }
