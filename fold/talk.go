package fold

// Talk is what was said so far.
type Talk struct {
	s string
}

// NewTalk begins one.
func NewTalk(label string) *Talk { return &Talk{tag("talk", label)} }

// Say adds something to it.
func (t *Talk) Say(label string, b string) { t.s = tag("say", t.s, label, b) }

// Ask is 32 bytes that hang on all that was said.
func (t *Talk) Ask(label string) string {
	answer := tag("ask", t.s, label)
	t.s = tag("asked", t.s, label)
	return answer
}

// Fork is another one in which the same was said.
func (t *Talk) Fork() *Talk { return &Talk{t.s} }
