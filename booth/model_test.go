package booth_test

import (
	"fmt"
	"strings"

	"hustings/api"
	"hustings/ballot"
	"hustings/fold"
	"hustings/roll"
)

// What the document says of booths, in the order of its words.

func leaf(text string) string { return fmt.Sprintf("%d:%s", len(text), text) }

func list(nodes ...string) string { return "(" + strings.Join(nodes, "") + ")" }

func listOf[T any](l []T, written func(T) string) string {
	var nodes []string
	for _, x := range l {
		nodes = append(nodes, written(x))
	}
	return list(nodes...)
}

func formModel(b api.Ballot) string {
	texts := func(l []string) string { return listOf(l, leaf) }
	either := func(p api.Either) string { return list(texts(p.Challenges), listOf(p.Answers, texts)) }
	cipher := func(c api.Cipher) string { return list(leaf(c.A), leaf(c.B)) }
	part := func(p api.Part) string {
		return list(listOf(p.Ciphers, cipher), listOf(p.Proofs, either), either(p.Sum))
	}
	return list(leaf("ballot"), leaf(b.Voter), leaf(fmt.Sprint(b.Precinct)), listOf(b.Parts, part))
}

func codeModel(prev string, b api.Ballot) string {
	return fold.Tag("code", []string{prev, formModel(b)})
}

func seedModel(seed, name string, n int) string {
	four := string([]byte{byte(n >> 24), byte(n >> 16), byte(n >> 8), byte(n)})
	return fold.Tag("seed", []string{seed, name, four})
}

// model is a booth that is not on a disk: it has room for so many codes.
type model struct {
	m               api.Manifest
	key, name, seed string
	room            int
	codes           []string
	hand            bool
	cast            api.Cast
	opening         api.Opening
}

func (b *model) last() string {
	if len(b.codes) == 0 {
		digest, _ := roll.Digest(b.m)
		return fold.Tag("booth", []string{digest, b.name})
	}
	return b.codes[len(b.codes)-1]
}

func (b *model) fill(voter string, precinct int, choices [][]int) (string, api.Errno) {
	if b.hand {
		return "", api.ErrState
	}
	seed, prev := seedModel(b.seed, b.name, len(b.codes)), b.last()
	filled, e := ballot.Fill(b.m, b.key, voter, precinct, choices, seed)
	if e != api.OK {
		return "", e
	}
	if len(b.codes) == b.room {
		return "", api.ErrFull
	}
	code := codeModel(prev, filled)
	b.codes = append(b.codes, code)
	b.hand = true
	b.cast = api.Cast{Ballot: filled, Prev: prev, Code: code}
	b.opening = api.Opening{Voter: voter, Precinct: precinct, Choices: choices, Seed: seed, Prev: prev, Code: code}
	return code, api.OK
}

func (b *model) giveCast() (api.Cast, api.Errno) {
	if !b.hand {
		return api.Cast{}, api.ErrState
	}
	b.hand = false
	return b.cast, api.OK
}

func (b *model) giveOpening() (api.Opening, api.Errno) {
	if !b.hand {
		return api.Opening{}, api.ErrState
	}
	b.hand = false
	return b.opening, api.OK
}
