package mix

import (
	"slices"

	"hustings/api"
	"hustings/group"
)

// Limits of what is mixed.
const (
	rowsMost = 256
	sizeMost = 12 // ciphers of a row
)

// hall is what a mix is made in: right rows, the network for them, and what they are hidden with. It reckons with elements
// that were looked at when they were handed in: so nothing goes wrong any more, and no error is asked for.
type hall struct {
	kind  int
	base  string
	key   string
	label string
	rows  [][]api.Cipher
	gates []api.Gate
}

// hallFor is that of a mix, or the first thing that is wrong.
func hallFor(kind int, key, label string, rows [][]api.Cipher) (hall, api.Errno) {
	base, e := group.Base(kind)
	h := hall{kind: kind, base: base, key: key, label: label, rows: rows}
	switch {
	case e != api.OK:
		return hall{}, e
	case h.noElem(key):
		return hall{}, api.ErrElem
	}
	if e := h.wrongRows(); e != api.OK {
		return hall{}, e
	}
	h.gates = gatesFor(len(rows))
	return h, api.OK
}

// wrongRows is what is wrong with the rows.
func (h hall) wrongRows() api.Errno {
	switch {
	case len(h.rows) > rowsMost || slices.ContainsFunc(h.rows, tooLong):
		return api.ErrLong
	case len(h.rows) == 0 || len(h.rows[0]) == 0 || slices.ContainsFunc(h.rows, h.uneven):
		return api.ErrForm
	case slices.ContainsFunc(h.rows, h.strangeRow):
		return api.ErrElem
	}
	return api.OK
}

func tooLong(row []api.Cipher) bool { return len(row) > sizeMost }

// uneven tells whether a row has not as many ciphers as the first one.
func (h hall) uneven(row []api.Cipher) bool { return len(row) != h.size() }

// size is how many ciphers each row has.
func (h hall) size() int { return len(h.rows[0]) }

func (h hall) noElem(s string) bool { return !group.Member(h.kind, s) }

func (h hall) noCipher(c api.Cipher) bool { return h.noElem(c.A) || h.noElem(c.B) }

func (h hall) strangeRow(row []api.Cipher) bool { return slices.ContainsFunc(row, h.noCipher) }

// mixed is what comes of the rows. A row stands both in a pair and in Out: each has memory of its own there.
func (h hall) mixed(crossed []bool, seed string) api.Mixed {
	var m api.Mixed
	out := through(h.gates, h.rows, func(k int, in pair) pair {
		p, proof := h.gate(k).pass(in, crossed[k], seed)
		m.Pairs, m.Proofs = append(m.Pairs, p), append(m.Proofs, proof)
		return p
	})
	for _, row := range out {
		m.Out = append(m.Out, slices.Clone(row))
	}
	return m
}

// misfits tells whether a mix has not what one of these rows must have at the gates.
func (h hall) misfits(m api.Mixed) bool {
	return len(m.Pairs) != len(h.gates) || len(m.Proofs) != len(h.gates) ||
		slices.ContainsFunc(m.Pairs, func(p pair) bool { return h.uneven(p[0]) || h.uneven(p[1]) })
}

// strange tells whether some of what comes out of the gates are no ciphers.
func (h hall) strange(pairs []pair) bool {
	return slices.ContainsFunc(pairs, func(p pair) bool { return h.strangeRow(p[0]) || h.strangeRow(p[1]) })
}

// endsIn tells whether Out is what is on the wires in the end.
func (h hall) endsIn(m api.Mixed) bool {
	out := through(h.gates, h.rows, func(k int, _ pair) pair { return m.Pairs[k] })
	return slices.EqualFunc(out, m.Out, slices.Equal)
}

// proven tells whether the proofs of all gates are right.
func (h hall) proven(m api.Mixed) bool {
	right := true
	through(h.gates, h.rows, func(k int, in pair) pair {
		right = right && h.gate(k).right(in, m.Pairs[k], m.Proofs[k])
		return m.Pairs[k]
	})
	return right
}
