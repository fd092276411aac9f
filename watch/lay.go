package watch

import (
	"hustings/api"
	"hustings/node"
	"hustings/script"
)

// What entries begin with.
const (
	changeLeaf = "change"
	openLeaf   = "open"
	closeLeaf  = "close"
	castLeaf   = "cast"
	openedLeaf = "opened"
	mixLeaf    = "mix"
	shareLeaf  = "share"
)

// polls is the opening or the closing of the polls.
type polls struct {
	api.Stamp
	leaf string
}

// mixing is a mix, and the number of the contest whose rows are mixed.
type mixing struct {
	api.Mixed
	contest int
}

// part is a share, and the number of the cipher that it opens.
type part struct {
	api.Share
	which int
}

// written is how an entry is written. Numbers are laid ahead of lists, and those in lists are asked for ahead of these:
// that one is none is told ahead of there being too much.
func written[T any](x T, lay func(*node.Layer, T) api.Node) (string, api.Errno) {
	return node.Write(func(l *node.Layer) api.Node { return lay(l, x) })
}

func layChange(l *node.Layer, c api.Change) api.Node {
	return l.List(l.Text(changeLeaf), l.Number(c.Do), l.Text(c.Id), l.Number(c.Precinct), l.Text(c.Key), script.LayProof(l, c.Sign))
}

func layPolls(l *node.Layer, p polls) api.Node {
	return l.List(l.Text(p.leaf), l.Number(p.Size), l.Text(p.Head), script.LayProof(l, p.Sign))
}

func layCast(l *node.Layer, c api.Cast) api.Node {
	return l.List(l.Text(castLeaf), script.LayBallot(l, c.Ballot), l.Text(c.Prev), l.Text(c.Code), script.LayProof(l, c.Sign))
}

func layOpened(l *node.Layer, o api.Opening) api.Node {
	for _, choice := range o.Choices {
		l.Ask(choice)
	}
	return l.List(
		l.Text(openedLeaf),
		l.Text(o.Voter),
		l.Number(o.Precinct),
		node.LayAll(l, o.Choices, layChoice),
		l.Text(o.Seed),
		l.Text(o.Prev),
		l.Text(o.Code),
	)
}

func layChoice(l *node.Layer, choice []int) api.Node {
	return node.LayAll(l, choice, (*node.Layer).Number)
}

func layMixing(l *node.Layer, m mixing) api.Node {
	return l.List(
		l.Text(mixLeaf),
		l.Number(m.contest),
		node.LayAll(l, m.Pairs, layPair),
		node.LayAll(l, m.Proofs, script.LayEither),
		node.LayAll(l, m.Out, script.LayCiphers),
	)
}

func layPair(l *node.Layer, p [2][]api.Cipher) api.Node {
	return l.List(script.LayCiphers(l, p[0]), script.LayCiphers(l, p[1]))
}

func layPart(l *node.Layer, p part) api.Node {
	return l.List(l.Text(shareLeaf), l.Number(p.which), l.Number(p.Trustee), l.Text(p.Value), script.LayProof(l, p.Proof))
}
