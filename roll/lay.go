package roll

import (
	"hustings/api"
	"hustings/wire"
)

// layManifest is a manifest that nothing is wrong with, as a node.
func layManifest(m api.Manifest) api.Node {
	return list(
		text(manifestLeaf),
		number(m.Kind),
		text(m.Name),
		layAll(m.Contests, layContest),
		layAll(m.Styles, layStyle),
		layAll(m.Precincts, layPrecinct),
		layAll(m.Trustees, text),
		number(m.Need),
		number(m.Mixes),
		text(m.Registrar),
		text(m.Clerk),
		truth(m.Again),
		text(m.Lots),
	)
}

// manifestLeaf is what a manifest begins with.
const manifestLeaf = "manifest"

func layContest(c api.Contest) api.Node {
	return list(text(c.Name), layAll(c.Options, text), number(c.Rule), number(c.Seats), number(c.Most))
}

func layStyle(s api.Style) api.Node { return list(text(s.Name), layAll(s.Contests, number)) }

func layPrecinct(p api.Precinct) api.Node { return list(text(p.Name), number(p.Style)) }

// layAll is a list of what is laid for each entry.
func layAll[T any](l []T, lay func(T) api.Node) api.Node {
	nodes := make([]api.Node, len(l))
	for i, x := range l {
		nodes[i] = lay(x)
	}
	return list(nodes...)
}

func list(nodes ...api.Node) api.Node { return api.Node{List: nodes} }

func text(s string) api.Node { return api.Node{Leaf: true, Text: s} }

// number is one that was looked at: so nothing goes wrong with it any more.
func number(n int) api.Node {
	s, _ := wire.Number(n)
	return text(s)
}

func truth(b bool) api.Node {
	if b {
		return number(1)
	}
	return number(0)
}
