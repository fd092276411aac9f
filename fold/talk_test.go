package fold_test

import (
	"testing"

	"hustings/fold"
)

func TestF6(t *testing.T) {
	same(t, "Ask of a new talk", fold.NewTalk("a").Ask("q"), "a85cd85e864f4c57d9519aaf058330fabe46e78ba648ed9959937d5e90568c74")
	a := fold.NewTalk("a")
	a.Say("b", "c")
	same(t, "Ask", a.Ask("d"), "be05aee4da61d1d0bce51cb1e1f4efbb19dac516e5dd6d45e46714c548bcebc6")
	same(t, "Ask again", a.Ask("d"), "2a4b145d5ab2bd73b1d294a96bd2d40efd33185e4c17ddfbadabbb7fb9822478")
}

func TestF6IsTags(t *testing.T) {
	a := fold.NewTalk("")
	s := fold.Tag("talk", []string{""})
	for i := range 50 {
		label, b := bytesOf(i), bytesOf(3*i)
		a.Say(label, b)
		s = fold.Tag("say", []string{s, label, b})
		if got := a.Ask(b); got != fold.Tag("ask", []string{s, b}) {
			t.Fatalf("time %d: %x comes", i, got)
		}
		s = fold.Tag("asked", []string{s, b})
	}
}

func TestF6HearsEverything(t *testing.T) {
	talks := [][]string{
		{"a"}, {"b"}, {"a", "", ""}, {"a", "b", "c"}, {"a", "bc", ""}, {"a", "", "bc"}, {"a", "c", "b"},
		{"a", "b", "c", "d", "e"}, {"a", "d", "e", "b", "c"}, {"a", "b", "c", "b", "c"},
	}
	seen := map[string]int{}
	for i, l := range talks {
		a := fold.NewTalk(l[0])
		for k := 1; k < len(l); k += 2 {
			a.Say(l[k], l[k+1])
		}
		answer := a.Ask("q")
		if k, ok := seen[answer]; ok {
			t.Errorf("%q and %q sound alike", l, talks[k])
		}
		seen[answer] = i
	}
}

func TestF6Fork(t *testing.T) {
	a := fold.NewTalk("a")
	a.Say("b", "c")
	b := a.Fork()
	a.Say("only", "a")
	c := b.Fork()
	b.Say("only", "b")
	b.Ask("only b")
	fresh := func(more ...string) string {
		n := fold.NewTalk("a")
		n.Say("b", "c")
		for _, m := range more {
			n.Say("only", m)
		}
		return n.Ask("q")
	}
	if a.Ask("q") != fresh("a") {
		t.Error("a talk hears what its fork is told")
	}
	if c.Ask("q") != fresh() {
		t.Error("a fork has not heard the same, or hears what another is told")
	}
	if b.Ask("q") == fresh("b") {
		t.Error("a fork doesn't hear that it was asked")
	}
}

func TestF6TalksAreApart(t *testing.T) {
	a, b := fold.NewTalk("a"), fold.NewTalk("a")
	b.Say("x", "y")
	if a.Ask("q") != fold.NewTalk("a").Ask("q") {
		t.Error("a talk hears what another one is told")
	}
}
