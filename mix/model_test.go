package mix_test

import (
	"reflect"

	"hustings/api"
	"hustings/fold"
	"hustings/sigma"
)

// What the document says of mixes, in the order of its words, with numbers of math/big.

// planModel is the gates on the wires 0 to n - 1.
func planModel(n int) []api.Gate {
	var wires []int
	for i := range n {
		wires = append(wires, i)
	}
	return gatesModel(wires)
}

func gatesModel(wires []int) []api.Gate {
	switch len(wires) {
	case 1:
		return nil
	case 2:
		return []api.Gate{{X: wires[0], Y: wires[1]}}
	}
	h := len(wires) / 2
	var gates []api.Gate
	pairs := func(n int) {
		for i := range n {
			gates = append(gates, api.Gate{X: wires[2*i], Y: wires[2*i+1]})
		}
	}
	var even, others []int
	for i, wire := range wires {
		if i%2 == 0 && len(even) < h {
			even = append(even, wire)
		} else {
			others = append(others, wire)
		}
	}
	pairs(h)
	gates = append(gates, gatesModel(even)...)
	gates = append(gates, gatesModel(others)...)
	if len(wires)%2 == 0 {
		h--
	}
	pairs(h)
	return gates
}

// runModel is which row is on each wire in the end.
func runModel(n int, crossed []bool) []int {
	wires := make([]int, n)
	for i := range wires {
		wires[i] = i
	}
	for k, g := range planModel(n) {
		if crossed[k] {
			wires[g.X], wires[g.Y] = wires[g.Y], wires[g.X]
		}
	}
	return wires
}

func four(n int) string {
	return string([]byte{byte(n >> 24), byte(n >> 16), byte(n >> 8), byte(n)})
}

// renewNonce is CHANCE(seed, `renew`, i).
func (r ring) renewNonce(seed string, i int) string {
	b, _ := fold.Stream(fold.Tag("renew", []string{seed, four(i)}), "chance", 64)
	n := number(b)
	return r.text(n.Mod(n, r.order))
}

func (r ring) renewModel(key string, c api.Cipher, nonce string) api.Cipher {
	return api.Cipher{A: r.times(c.A, r.power(r.small(2), nonce)), B: r.times(c.B, r.power(key, nonce))}
}

// claimsModel say that x was renewed from a, and y from b.
func (r ring) claimsModel(key string, a, b, x, y []api.Cipher) []api.Claim {
	var claims []api.Claim
	say := func(from, to []api.Cipher) {
		for j := range to {
			claims = append(claims, api.Claim{
				Bases:  []string{r.small(2), key},
				Images: []string{r.over(to[j].A, from[j].A), r.over(to[j].B, from[j].B)},
			})
		}
	}
	say(a, x)
	say(b, y)
	return claims
}

// setsModel is the claims for straight, and those for crossed.
func (r ring) setsModel(key string, a, b, x, y []api.Cipher) [][]api.Claim {
	return [][]api.Claim{r.claimsModel(key, a, b, x, y), r.claimsModel(key, b, a, x, y)}
}

func labelModel(label string, k int) string { return fold.Tag("mix", []string{label, four(k)}) }

// gateModel is what comes out of the k-th gate with these nonces for X and for Y, and the proof of it.
func (r ring) gateModel(key, label string, k int, a, b []api.Cipher, crossed bool, nonces [2][]string, seed string) ([2][]api.Cipher, api.Either) {
	from, which := [2][]api.Cipher{a, b}, 0
	if crossed {
		from, which = [2][]api.Cipher{b, a}, 1
	}
	var out [2][]api.Cipher
	for side := range 2 {
		for j, c := range from[side] {
			out[side] = append(out[side], r.renewModel(key, c, nonces[side][j]))
		}
	}
	secrets := append(append([]string{}, nonces[0]...), nonces[1]...)
	sets := r.setsModel(key, a, b, out[0], out[1])
	proof, e := sigma.ProveAny(r.kind, labelModel(label, k), sets, which, secrets, seed)
	if e != api.OK {
		panic(e)
	}
	return out, proof
}

// mixModel is a mix; nonce tells that of the i-th gate, for X (0) or Y (16), of the j-th cipher.
func (r ring) mixModel(key, label string, rows [][]api.Cipher, crossed []bool, seed string, nonce func(i int) string) api.Mixed {
	wires := append([][]api.Cipher{}, rows...)
	var m api.Mixed
	for k, g := range planModel(len(rows)) {
		var nonces [2][]string
		for j := range rows[0] {
			nonces[0] = append(nonces[0], nonce(32*k+j))
			nonces[1] = append(nonces[1], nonce(32*k+16+j))
		}
		out, proof := r.gateModel(key, label, k, wires[g.X], wires[g.Y], crossed[k], nonces, fold.Tag("mixing", []string{seed, four(k)}))
		wires[g.X], wires[g.Y] = out[0], out[1]
		m.Pairs, m.Proofs = append(m.Pairs, out), append(m.Proofs, proof)
	}
	m.Out = wires
	return m
}

// seededMix is a mix as Mix makes it.
func (r ring) seededMix(key, label string, rows [][]api.Cipher, crossed []bool, seed string) api.Mixed {
	return r.mixModel(key, label, rows, crossed, seed, func(i int) string { return r.renewNonce(seed, i) })
}

func (r ring) isElem(s string) bool {
	return len(s) == r.size && number(s).Sign() > 0 && number(s).Cmp(r.order) <= 0
}

func (r ring) isRow(row []api.Cipher) bool {
	for _, c := range row {
		if !r.isElem(c.A) || !r.isElem(c.B) {
			return false
		}
	}
	return true
}

// rowsModel is what is wrong with rows.
func (r ring) rowsModel(rows [][]api.Cipher) api.Errno {
	long, form, elem := len(rows) > 256, len(rows) == 0, false
	for _, row := range rows {
		long = long || len(row) > 12
		form = form || len(row) == 0 || len(row) != len(rows[0])
		elem = elem || !r.isRow(row)
	}
	switch {
	case long:
		return api.ErrLong
	case form:
		return api.ErrForm
	case elem:
		return api.ErrElem
	}
	return api.OK
}

// checkModel is what is wrong with a mix.
func checkModel(kind int, key, label string, rows [][]api.Cipher, m api.Mixed) api.Errno {
	if kind < 1 || kind > 3 {
		return api.ErrKind
	}
	r := ringOf(kind)
	if !r.isElem(key) {
		return api.ErrElem
	}
	if e := r.rowsModel(rows); e != api.OK {
		return e
	}
	gates := planModel(len(rows))
	form, elem := len(m.Pairs) != len(gates) || len(m.Proofs) != len(gates), false
	for _, p := range m.Pairs {
		form = form || len(p[0]) != len(rows[0]) || len(p[1]) != len(rows[0])
		elem = elem || !r.isRow(p[0]) || !r.isRow(p[1])
	}
	if form {
		return api.ErrForm
	}
	if elem {
		return api.ErrElem
	}
	wires, proof := append([][]api.Cipher{}, rows...), true
	for k, g := range gates {
		sets := r.setsModel(key, wires[g.X], wires[g.Y], m.Pairs[k][0], m.Pairs[k][1])
		proof = proof && sigma.VerifyAny(kind, labelModel(label, k), sets, m.Proofs[k])
		wires[g.X], wires[g.Y] = m.Pairs[k][0], m.Pairs[k][1]
	}
	if len(m.Out) != len(wires) {
		return api.ErrForm
	}
	for i := range wires {
		if !reflect.DeepEqual(append([]api.Cipher{}, wires[i]...), append([]api.Cipher{}, m.Out[i]...)) {
			return api.ErrForm
		}
	}
	if !proof {
		return api.ErrProof
	}
	return api.OK
}
