package roll

import (
	"hustings/api"
	"hustings/node"
)

func takeManifest(t *node.Taker) api.Manifest {
	t.Leaf(manifestLeaf)
	return api.Manifest{
		Kind:      t.Number(),
		Name:      t.Text(),
		Contests:  node.TakeAll(t, takeContest),
		Styles:    node.TakeAll(t, takeStyle),
		Precincts: node.TakeAll(t, takePrecinct),
		Trustees:  node.TakeAll(t, (*node.Taker).Text),
		Need:      t.Number(),
		Mixes:     t.Number(),
		Registrar: t.Text(),
		Clerk:     t.Text(),
		Again:     t.Truth(),
		Lots:      t.Text(),
	}
}

func takeContest(t *node.Taker) api.Contest {
	return node.TakeList(t, func(t *node.Taker) api.Contest {
		return api.Contest{Name: t.Text(), Options: node.TakeAll(t, (*node.Taker).Text), Rule: t.Number(), Seats: t.Number(), Most: t.Number()}
	})
}

func takeStyle(t *node.Taker) api.Style {
	return node.TakeList(t, func(t *node.Taker) api.Style {
		return api.Style{Name: t.Text(), Contests: node.TakeAll(t, (*node.Taker).Number)}
	})
}

func takePrecinct(t *node.Taker) api.Precinct {
	return node.TakeList(t, func(t *node.Taker) api.Precinct {
		return api.Precinct{Name: t.Text(), Style: t.Number()}
	})
}
