package group

import "hustings/api"

// reader makes a number of bytes that are handed in, or tells what is wrong with them.
type reader func(*ground, string) (number, api.Errno)

// on goes on with the ground of a kind: that there is none is told ahead of all else.
func on[A any](kind int, then func(*ground) (A, api.Errno)) (A, api.Errno) {
	g, ok := groundOf(kind)
	if !ok {
		var none A
		return none, api.ErrKind
	}
	return then(&g)
}

// withOne goes on with what is handed in, if it is not wrong.
func withOne[A any](kind int, read reader, a string, then func(*ground, number) (A, api.Errno)) (A, api.Errno) {
	return on(kind, func(g *ground) (A, api.Errno) {
		v, e := read(g, a)
		if e != api.OK {
			var none A
			return none, e
		}
		return then(g, v)
	})
}

// withTwo goes on with two things that are handed in: the first one that is wrong tells the error.
func withTwo[A any](kind int, readA reader, a string, readB reader, b string, then func(*ground, number, number) (A, api.Errno)) (A, api.Errno) {
	return withOne(kind, readA, a, func(g *ground, v number) (A, api.Errno) {
		w, e := readB(g, b)
		if e != api.OK {
			var none A
			return none, e
		}
		return then(g, v, w)
	})
}

// reckon is what comes of two scalars.
func reckon(kind int, a string, b string, how func(*field, number, number) number) (string, api.Errno) {
	return withTwo(kind, (*ground).scalar, a, (*ground).scalar, b, func(g *ground, v, w number) (string, api.Errno) {
		return g.told(how(&g.scalars, v, w))
	})
}
