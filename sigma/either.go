package sigma

import (
	"slices"

	"hustings/api"
	"hustings/fold"
)

// setsMost is how many sets there may be.
const setsMost = 16

// sets is a right list of them, in one group.
type sets struct {
	ground
	all []set
}

// setsOf is the sets that lists of claims are, in the group of a kind.
func setsOf(kind int, lists [][]api.Claim) (sets, api.Errno) {
	g, e := groundOf(kind)
	switch {
	case e != api.OK:
		return sets{}, e
	case len(lists) > setsMost:
		return sets{}, api.ErrLong
	case len(lists) == 0:
		return sets{}, api.ErrForm
	}
	all, e := read(lists, g.set)
	return sets{g, all}, e
}

// talk is that of the sets.
func (l sets) talk(label string) *fold.Talk {
	t := l.ground.talk("either", label)
	for _, s := range l.all {
		t.Say("set", string([]byte{byte(len(s.claims))}))
		s.tell(t)
	}
	return t
}

// total is the sum of scalars.
func (l sets) total(numbers []string) string {
	sum := l.zero()
	for _, n := range numbers {
		sum = l.plus(sum, n)
	}
	return sum
}

// prove proves one of the sets. The challenge of all others is chosen ahead of what is said first of them:
// whoever sees the proof cannot tell for which one it was not.
func (l sets) prove(label string, which int, secrets []string, seed string) api.Either {
	t := l.talk(label)
	from := seeded(t, seed)
	p := api.Either{Challenges: make([]string, len(l.all)), Answers: make([][]string, len(l.all))}
	for i, s := range l.all {
		if i == which {
			// It counts for nothing in the sum of the others.
			p.Challenges[i] = s.zero()
			p.Answers[i] = s.nonces(from)
			tellFirsts(t, s.firsts(p.Answers[i]))
			continue
		}
		p.Challenges[i] = s.challenge(from, "other")
		p.Answers[i] = s.nonces(from)
		tellFirsts(t, s.back(p.Challenges[i], p.Answers[i]))
	}
	c := l.minus(l.challenge(t, "challenge"), l.total(p.Challenges))
	p.Challenges[which] = c
	p.Answers[which] = l.all[which].answers(p.Answers[which], c, secrets)
	return p
}

// fits tells whether a proof has all that a proof of the sets must have.
func (l sets) fits(p api.Either) bool {
	return len(p.Challenges) == len(l.all) && l.scalars(p.Challenges) &&
		slices.EqualFunc(l.all, p.Answers, func(s set, answers []string) bool { return s.wrong(answers) == api.OK })
}

// verify tells whether a proof that fits is right.
func (l sets) verify(label string, p api.Either) bool {
	t := l.talk(label)
	for i, s := range l.all {
		tellFirsts(t, s.back(p.Challenges[i], p.Answers[i]))
	}
	return l.challenge(t, "challenge") == l.total(p.Challenges)
}
