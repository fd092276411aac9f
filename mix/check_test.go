package mix_test

import (
	"fmt"
	"slices"
	"testing"

	"hustings/api"
	"hustings/fold"
	"hustings/mix"
	"hustings/sigma"
)

// checkArgs is what Check is handed.
type checkArgs struct {
	kind       int
	key, label string
	rows       [][]api.Cipher
	m          api.Mixed
}

func (a checkArgs) check() api.Errno { return mix.Check(a.kind, a.key, a.label, a.rows, a.m) }

func (a checkArgs) clone() checkArgs {
	a.rows, a.m = cloneRows(a.rows), clone(a.m)
	return a
}

// mixedArgs is a mix of so many rows that nothing is wrong with.
func (r ring) mixedArgs(n, size int) checkArgs {
	d := dice()
	a := checkArgs{kind: r.kind, key: r.public(), label: "label", rows: r.hidden(d, n, size)}
	a.m, _ = mix.Mix(a.kind, a.key, a.label, a.rows, anyCrossed(d, n), "seed")
	return a
}

func TestM5Check(t *testing.T) {
	kinds(t, func(t *testing.T, r ring) {
		for n := 1; n <= 7; n++ {
			for _, size := range []int{1, 3} {
				a := r.mixedArgs(n, size)
				tells(t, fmt.Sprint(n, " rows"), a.check(), api.OK)
				tells(t, fmt.Sprint(n, " rows, by the model"), checkModel(a.kind, a.key, a.label, a.rows, a.m), api.OK)
			}
		}
		a := r.mixedArgs(2, 12)
		tells(t, "rows of 12", a.check(), api.OK)
	})
}

// TestM5OtherNonces: what comes by other nonces, or is not changed at all, and proofs by other seeds are right too.
func TestM5OtherNonces(t *testing.T) {
	kinds(t, func(t *testing.T, r ring) {
		d := dice()
		rows := r.anyRows(d, 5, 2)
		key := r.any(d)
		for name, nonce := range map[string]func(int) string{
			"any":  func(int) string { return r.any(d) },
			"none": func(int) string { return r.small(0) },
			"last": func(int) string { return r.text(number(r.text(r.order)).Sub(r.order, number(r.small(1)))) },
		} {
			m := r.mixModel(key, "label", rows, anyCrossed(d, 5), "another seed", nonce)
			tells(t, name, mix.Check(r.kind, key, "label", rows, m), api.OK)
		}
	})
}

// atFaults are those of pairs and proofs at a gate; the ranks of others that are told ahead are lower.
func atFaults(r ring, k int) []fault[checkArgs] {
	var out []fault[checkArgs]
	add := func(name string, rank int, e api.Errno, do func(m *api.Mixed)) {
		out = append(out, fault[checkArgs]{fmt.Sprint(name, " at ", k), rank, e, func(a *checkArgs) { do(&a.m) }})
	}
	for side := range 2 {
		row := func(m *api.Mixed) *[]api.Cipher { return &m.Pairs[k][side] }
		add("an empty row", wrongForm, api.ErrForm, func(m *api.Mixed) { *row(m) = nil })
		add("one less", wrongForm, api.ErrForm, func(m *api.Mixed) { *row(m) = (*row(m))[1:] })
		add("one more", wrongForm, api.ErrForm, func(m *api.Mixed) { *row(m) = append(*row(m), api.Cipher{A: r.small(1), B: r.small(1)}) })
		add("13", wrongForm, api.ErrForm, func(m *api.Mixed) { *row(m) = make([]api.Cipher, 13) })
		for j := range 2 {
			for _, none := range r.noElems() {
				add("A", wrongPairs, api.ErrElem, func(m *api.Mixed) { (*row(m))[j].A = none })
				add("B", wrongPairs, api.ErrElem, func(m *api.Mixed) { (*row(m))[j].B = none })
			}
		}
	}
	proof := func(name string, do func(p *api.Either)) {
		add(name, wrongProof, api.ErrProof, func(m *api.Mixed) { do(&m.Proofs[k]) })
	}
	proof("no proof", func(p *api.Either) { *p = api.Either{} })
	proof("a challenge less", func(p *api.Either) { p.Challenges = p.Challenges[1:] })
	proof("answers less", func(p *api.Either) { p.Answers = p.Answers[1:] })
	proof("a set less", func(p *api.Either) { p.Challenges, p.Answers = p.Challenges[1:], p.Answers[1:] })
	proof("the sets changed", func(p *api.Either) { slices.Reverse(p.Challenges); slices.Reverse(p.Answers) })
	for set := range 2 {
		proof("another challenge", func(p *api.Either) { p.Challenges[set] = r.add(p.Challenges[set], r.small(1)) })
		proof("no scalar", func(p *api.Either) { p.Challenges[set] = r.text(r.order) })
		proof("an answer less", func(p *api.Either) { p.Answers[set] = p.Answers[set][1:] })
		for i := range 4 {
			proof("another answer", func(p *api.Either) { p.Answers[set][i] = r.add(p.Answers[set][i], r.small(1)) })
			proof("no answer", func(p *api.Either) { p.Answers[set][i] = "" })
		}
	}
	return out
}

// mixFaults are those of a whole mix of 5 rows of 2 ciphers.
func mixFaults(r ring) []fault[checkArgs] {
	var out []fault[checkArgs]
	add := func(name string, rank int, e api.Errno, do func(a *checkArgs)) {
		out = append(out, fault[checkArgs]{name, rank, e, do})
	}
	form := func(name string, do func(m *api.Mixed)) {
		add(name, wrongForm, api.ErrForm, func(a *checkArgs) { do(&a.m) })
	}
	form("no pairs", func(m *api.Mixed) { m.Pairs = nil })
	form("one pair less", func(m *api.Mixed) { m.Pairs = m.Pairs[:7] })
	form("one pair more", func(m *api.Mixed) { m.Pairs = append(m.Pairs, m.Pairs[0]) })
	form("no proofs", func(m *api.Mixed) { m.Proofs = nil })
	form("one proof less", func(m *api.Mixed) { m.Proofs = m.Proofs[1:] })
	form("one proof more", func(m *api.Mixed) { m.Proofs = append(m.Proofs, api.Either{}) })
	form("one less of both", func(m *api.Mixed) { m.Pairs, m.Proofs = m.Pairs[1:], m.Proofs[1:] })
	form("very many", func(m *api.Mixed) { m.Pairs, m.Proofs = make([][2][]api.Cipher, 1<<16), make([]api.Either, 1<<16) })
	form("nothing", func(m *api.Mixed) { *m = api.Mixed{} })
	add("a row less", wrongForm, api.ErrForm, func(a *checkArgs) { a.rows = a.rows[:4] })
	add("a row more", wrongForm, api.ErrForm, func(a *checkArgs) { a.rows = append(a.rows, a.rows[0]) })

	ends := func(name string, do func(out *[][]api.Cipher)) {
		add(name, wrongOut, api.ErrForm, func(a *checkArgs) { do(&a.m.Out) })
	}
	ends("nothing comes out", func(out *[][]api.Cipher) { *out = nil })
	ends("one row less comes out", func(out *[][]api.Cipher) { *out = (*out)[:4] })
	ends("one row more comes out", func(out *[][]api.Cipher) { *out = append(*out, (*out)[0]) })
	ends("very many rows come out", func(out *[][]api.Cipher) { *out = make([][]api.Cipher, 1<<16) })
	for i := range 5 {
		ends("an empty row comes out", func(out *[][]api.Cipher) { (*out)[i] = nil })
		ends("a shorter row comes out", func(out *[][]api.Cipher) { (*out)[i] = (*out)[i][:1] })
		ends("a longer row comes out", func(out *[][]api.Cipher) { (*out)[i] = append((*out)[i], (*out)[i][0]) })
		ends("two rows change", func(out *[][]api.Cipher) { (*out)[i], (*out)[(i+1)%5] = (*out)[(i+1)%5], (*out)[i] })
		ends("two ciphers change", func(out *[][]api.Cipher) { slices.Reverse((*out)[i]) })
		ends("a row comes out twice", func(out *[][]api.Cipher) { (*out)[i] = (*out)[(i+2)%5] })
		for j := range 2 {
			ends("another A", func(out *[][]api.Cipher) { (*out)[i][j].A = r.times((*out)[i][j].A, r.small(2)) })
			ends("another B", func(out *[][]api.Cipher) { (*out)[i][j].B = r.times((*out)[i][j].B, r.small(2)) })
			ends("no element comes out", func(out *[][]api.Cipher) { (*out)[i][j].A = "" })
		}
	}

	proof := func(name string, do func(a *checkArgs)) { add(name, wrongProof, api.ErrProof, do) }
	proof("another label", func(a *checkArgs) { a.label = "labe" })
	proof("no label", func(a *checkArgs) { a.label = "" })
	proof("another key", func(a *checkArgs) { a.key = r.small(3) })
	proof("two proofs change", func(a *checkArgs) { a.m.Proofs[0], a.m.Proofs[7] = a.m.Proofs[7], a.m.Proofs[0] })
	for i := range 5 {
		proof("two rows change", func(a *checkArgs) { a.rows[i], a.rows[(i+2)%5] = a.rows[(i+2)%5], a.rows[i] })
		proof("another A goes in", func(a *checkArgs) { a.rows[i][1].A = r.times(a.rows[i][1].A, r.small(2)) })
		proof("another B goes in", func(a *checkArgs) { a.rows[i][0].B = r.times(a.rows[i][0].B, r.small(2)) })
	}
	for k := range 8 {
		out = append(out, atFaults(r, k)...)
	}
	return out
}

// TestM5Wrong: each fault by itself, and many of two together: the first one is told.
func TestM5Wrong(t *testing.T) {
	r := ringOf(api.Short)
	first := r.mixedArgs(5, 2)
	all := append(argsFaults(r, func(a *checkArgs) (*int, *string, *[][]api.Cipher) { return &a.kind, &a.key, &a.rows }), mixFaults(r)...)
	wrongOnes(all, 8000, func(name string, do func(*checkArgs), want api.Errno) {
		t.Helper()
		a := first.clone()
		do(&a)
		tells(t, name, a.check(), want)
		tells(t, name+", by the model", checkModel(a.kind, a.key, a.label, a.rows, a.m), want)
	})
}

// TestM5Kind: a mix of one kind is none of another one.
func TestM5Kind(t *testing.T) {
	kinds(t, func(t *testing.T, r ring) {
		a := r.mixedArgs(3, 2)
		for kind := 1; kind <= 3; kind++ {
			if kind != r.kind {
				tells(t, fmt.Sprint("kind ", kind), mix.Check(kind, a.key, a.label, a.rows, a.m), api.ErrElem)
			}
		}
	})
}

// forger changes what comes out of the k-th gate, and its proof; sets are those of what came out ahead of that.
type forger func(k int, sets [][]api.Claim, out *[2][]api.Cipher, proof *api.Either)

// forged is a mix that is right but for what is done at one gate; what comes behind is made of that.
func (r ring) forged(rows [][]api.Cipher, at int, lie forger) api.Mixed {
	d := dice()
	wires := slices.Clone(rows)
	var m api.Mixed
	for k, g := range planModel(len(rows)) {
		var nonces [2][]string
		for range rows[0] {
			nonces[0], nonces[1] = append(nonces[0], r.any(d)), append(nonces[1], r.any(d))
		}
		out, proof := r.gateModel(r.public(), "label", k, wires[g.X], wires[g.Y], false, nonces, "seed")
		if k == at {
			lie(k, r.setsModel(r.public(), wires[g.X], wires[g.Y], out[0], out[1]), &out, &proof)
		}
		wires[g.X], wires[g.Y] = out[0], out[1]
		m.Pairs, m.Proofs = append(m.Pairs, out), append(m.Proofs, proof)
	}
	m.Out = wires
	return m
}

// TestM5Lies: a mixer who loses a row, tells one twice, changes what is hidden, or takes rows apart, is found out.
func TestM5Lies(t *testing.T) {
	for _, kind := range []int{api.Short, api.Full} { // of Tiny there are so few challenges that one may fit by chance
		r := ringOf(kind)
		rows := r.hidden(dice(), 3, 2)
		try := func(what string, want api.Errno, lie forger) {
			t.Helper()
			for at := range 3 {
				m := r.forged(rows, at, lie)
				tells(t, fmt.Sprint(what, " at ", at), mix.Check(r.kind, r.public(), "label", rows, m), want)
			}
		}
		swap := func(what string, do func(out *[2][]api.Cipher)) {
			t.Helper()
			try(what, api.ErrProof, func(_ int, _ [][]api.Claim, out *[2][]api.Cipher, _ *api.Either) { do(out) })
		}
		try("nothing", api.OK, func(int, [][]api.Claim, *[2][]api.Cipher, *api.Either) {})
		swap("a row twice", func(out *[2][]api.Cipher) { out[1] = slices.Clone(out[0]) })
		swap("crossed unsaid", func(out *[2][]api.Cipher) { out[0], out[1] = out[1], out[0] })
		swap("ciphers of two rows", func(out *[2][]api.Cipher) { out[0][1], out[1][1] = out[1][1], out[0][1] })
		swap("ciphers of one row", func(out *[2][]api.Cipher) { slices.Reverse(out[1]) })
		swap("one more is hidden", func(out *[2][]api.Cipher) { out[0][0].B = r.times(out[0][0].B, r.small(2)) })
		swap("another nonce", func(out *[2][]api.Cipher) { out[1][1].A = r.times(out[1][1].A, r.small(2)) })
		try("another set is proven", api.ErrProof, func(k int, sets [][]api.Claim, out *[2][]api.Cipher, p *api.Either) {
			out[0][0].B = r.times(out[0][0].B, r.small(2))
			*p = r.ownProof(t, k, sets)
		})
	}
}

// ownProof is a proof at a gate with a set in place of the first one that holds with a secret that anybody can choose.
func (r ring) ownProof(t *testing.T, k int, sets [][]api.Claim) api.Either {
	t.Helper()
	nine := r.small(9)
	claim := api.Claim{Bases: []string{r.small(2), r.public()}, Images: []string{r.power(r.small(2), nine), r.power(r.public(), nine)}}
	claims, secrets := slices.Repeat([]api.Claim{claim}, len(sets[0])), slices.Repeat([]string{nine}, len(sets[0]))
	p, e := sigma.ProveAny(r.kind, labelModel("label", k), [][]api.Claim{claims, sets[1]}, 0, secrets, "seed")
	tells(t, "a proof of another set", e, api.OK)
	return p
}

// TestM5Label: the proof of a gate stands under its own number, in four bytes, and the label of the mix.
func TestM5Label(t *testing.T) {
	r := ringOf(api.Short)
	a := r.mixedArgs(2, 2)
	nonces := []string{r.small(3), r.small(4), r.small(5), r.small(6)}
	out, _ := r.gateModel(a.key, a.label, 0, a.rows[0], a.rows[1], true, [2][]string{nonces[:2], nonces[2:]}, "seed")
	sets := r.setsModel(a.key, a.rows[0], a.rows[1], out[0], out[1])
	a.m.Pairs[0], a.m.Out = out, [][]api.Cipher{out[0], out[1]}
	try := func(what, label string, sets [][]api.Claim, which int, want api.Errno) {
		t.Helper()
		p, e := sigma.ProveAny(r.kind, label, sets, which, nonces, "seed")
		tells(t, what, e, api.OK)
		a.m.Proofs[0] = p
		tells(t, what, a.check(), want)
	}
	try("right", fold.Tag("mix", []string{"label", four(0)}), sets, 1, api.OK)
	try("another number", fold.Tag("mix", []string{"label", four(1)}), sets, 1, api.ErrProof)
	try("without a number", fold.Tag("mix", []string{"label"}), sets, 1, api.ErrProof)
	try("another tag", fold.Tag("mixing", []string{"label", four(0)}), sets, 1, api.ErrProof)
	try("the label alone", "label", sets, 1, api.ErrProof)
	try("the sets the other way round", fold.Tag("mix", []string{"label", four(0)}), [][]api.Claim{sets[1], sets[0]}, 0, api.ErrProof)
	try("one set alone", fold.Tag("mix", []string{"label", four(0)}), sets[1:], 0, api.ErrProof)
}

// TestM5OneRow: where there are no gates, what comes out is what went in.
func TestM5OneRow(t *testing.T) {
	kinds(t, func(t *testing.T, r ring) {
		a := r.mixedArgs(1, 2)
		check := func(what string, m api.Mixed, want api.Errno) {
			t.Helper()
			tells(t, what, mix.Check(a.kind, a.key, a.label, a.rows, m), want)
		}
		check("right", a.m, api.OK)
		check("empty lists", api.Mixed{Pairs: [][2][]api.Cipher{}, Proofs: []api.Either{}, Out: a.rows}, api.OK)
		check("nothing", api.Mixed{}, api.ErrForm)
		check("twice", api.Mixed{Out: [][]api.Cipher{a.rows[0], a.rows[0]}}, api.ErrForm)
		check("a pair", api.Mixed{Pairs: [][2][]api.Cipher{{a.rows[0], a.rows[0]}}, Out: a.rows}, api.ErrForm)
		check("a proof", api.Mixed{Proofs: []api.Either{{}}, Out: a.rows}, api.ErrForm)
		renewed := [][]api.Cipher{{r.renewModel(a.key, a.rows[0][0], r.small(1)), a.rows[0][1]}}
		check("renewed", api.Mixed{Out: renewed}, api.ErrForm)
	})
}

// TestM5Twice: what came out can be mixed again, and each mix checks with its own rows alone.
func TestM5Twice(t *testing.T) {
	r, d := ringOf(api.Full), dice()
	rows := r.hidden(d, 4, 2)
	one, _ := mix.Mix(r.kind, r.public(), "one", rows, anyCrossed(d, 4), "seed")
	two, e := mix.Mix(r.kind, r.public(), "two", one.Out, anyCrossed(d, 4), "seed")
	tells(t, "the second mix", e, api.OK)
	tells(t, "the second mix", mix.Check(r.kind, r.public(), "two", one.Out, two), api.OK)
	tells(t, "the second mix with the first rows", mix.Check(r.kind, r.public(), "two", rows, two), api.ErrProof)
	tells(t, "the first mix under the second label", mix.Check(r.kind, r.public(), "two", rows, one), api.ErrProof)
}

// TestE2Check: what is handed in is only read.
func TestE2Check(t *testing.T) {
	r := ringOf(api.Short)
	a := r.mixedArgs(5, 2)
	b := a.clone()
	tells(t, "Check", b.check(), api.OK)
	untouched(t, a.rows, b.rows)
	same(t, "the mix", b.m, api.OK, a.m)
	untouched(t, a.m.Out, b.m.Out)
	for i, p := range b.m.Pairs {
		untouched(t, a.m.Pairs[i][:], p[:])
	}
	for _, p := range b.m.Proofs {
		same(t, "the room behind challenges", p.Challenges[2:cap(p.Challenges)], api.OK, make([]string, 5))
	}
}
