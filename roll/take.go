package roll

import (
	"hustings/api"
	"hustings/wire"
)

// taker takes the nodes of a list, one behind the other. Whatever is not there, or of another kind, it throws ErrForm at.
type taker struct{ rest []api.Node }

// thrownBy does some work, and is the error that is thrown by it, if there is one. Whatever else would be thrown is no
// error of a node, and is not made to look like one.
func thrownBy(work func()) (e api.Errno) {
	defer func() {
		if x := recover(); x != nil {
			e = x.(api.Errno)
		}
	}()
	work()
	return api.OK
}

// must throws ErrForm, if something is not as it must be.
func must(ok bool) {
	if !ok {
		panic(api.ErrForm)
	}
}

// inside takes a list apart, which must be of what is taken of it and nothing more.
func inside[T any](n api.Node, take func(*taker) T) T {
	must(!n.Leaf)
	t := taker{n.List}
	out := take(&t)
	must(len(t.rest) == 0)
	return out
}

func (t *taker) next() api.Node {
	must(len(t.rest) > 0)
	n := t.rest[0]
	t.rest = t.rest[1:]
	return n
}

func (t *taker) text() string {
	n := t.next()
	must(n.Leaf)
	return n.Text
}

func (t *taker) number() int {
	n, e := wire.ReadNumber(t.text())
	must(e == api.OK)
	return n
}

func (t *taker) truth() bool {
	n := t.number()
	must(n <= 1)
	return n == 1
}

// takeAll takes a list of any length, each entry in one way.
func takeAll[T any](t *taker, take func(*taker) T) []T {
	return inside(t.next(), func(t *taker) []T {
		var out []T
		for len(t.rest) > 0 {
			out = append(out, take(t))
		}
		return out
	})
}

func takeManifest(n api.Node) api.Manifest {
	return inside(n, func(t *taker) api.Manifest {
		must(t.text() == manifestLeaf)
		return api.Manifest{
			Kind:      t.number(),
			Name:      t.text(),
			Contests:  takeAll(t, takeContest),
			Styles:    takeAll(t, takeStyle),
			Precincts: takeAll(t, takePrecinct),
			Trustees:  takeAll(t, (*taker).text),
			Need:      t.number(),
			Mixes:     t.number(),
			Registrar: t.text(),
			Clerk:     t.text(),
			Again:     t.truth(),
			Lots:      t.text(),
		}
	})
}

func takeContest(t *taker) api.Contest {
	return inside(t.next(), func(t *taker) api.Contest {
		return api.Contest{Name: t.text(), Options: takeAll(t, (*taker).text), Rule: t.number(), Seats: t.number(), Most: t.number()}
	})
}

func takeStyle(t *taker) api.Style {
	return inside(t.next(), func(t *taker) api.Style {
		return api.Style{Name: t.text(), Contests: takeAll(t, (*taker).number)}
	})
}

func takePrecinct(t *taker) api.Precinct {
	return inside(t.next(), func(t *taker) api.Precinct {
		return api.Precinct{Name: t.text(), Style: t.number()}
	})
}
