package roll

import (
	"hustings/api"
	"hustings/node"
)

// manifestLeaf is what a manifest begins with.
const manifestLeaf = "manifest"

func layManifest(l *node.Layer, m api.Manifest) api.Node {
	return l.List(
		l.Text(manifestLeaf),
		l.Number(m.Kind),
		l.Text(m.Name),
		node.LayAll(l, m.Contests, layContest),
		node.LayAll(l, m.Styles, layStyle),
		node.LayAll(l, m.Precincts, layPrecinct),
		node.LayAll(l, m.Trustees, (*node.Layer).Text),
		l.Number(m.Need),
		l.Number(m.Mixes),
		l.Text(m.Registrar),
		l.Text(m.Clerk),
		l.Truth(m.Again),
		l.Text(m.Lots),
	)
}

func layContest(l *node.Layer, c api.Contest) api.Node {
	options := node.LayAll(l, c.Options, (*node.Layer).Text)
	return l.List(l.Text(c.Name), options, l.Number(c.Rule), l.Number(c.Seats), l.Number(c.Most))
}

func layStyle(l *node.Layer, s api.Style) api.Node {
	return l.List(l.Text(s.Name), node.LayAll(l, s.Contests, (*node.Layer).Number))
}

func layPrecinct(l *node.Layer, p api.Precinct) api.Node {
	return l.List(l.Text(p.Name), l.Number(p.Style))
}
