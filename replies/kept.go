package replies

import "sublet/api"

// kept: what is kept of a client.
type kept struct {
	span    span
	answers [api.Window]api.Message // the zero message, where none is kept
}

// place of the answer to a request. All numbers of a span have places of their
// own, as they go round.
func (k *kept) place(seq int) *api.Message { return &k.answers[seq%api.Window] }

// follow: the client goes on as far as its Ask says, and no answer is kept that
// it may not ask for any more.
func (k *kept) follow(m api.Message) {
	now := k.span.after(m)
	if now == k.span {
		return
	}
	k.span = now
	for i, answer := range k.answers {
		if !now.has(answer) {
			k.answers[i] = api.Message{}
		}
	}
}

// span of the requests that a client may still ask: those of its boot, from low
// on. No Ask is of the boot 0, which is the one at first, so the first Ask sets
// the low too.
type span struct{ boot, low int }

// after: the span behind an Ask. One of an elder boot comes too late to say
// anything.
func (s span) after(m api.Message) span {
	switch {
	case m.Boot > s.boot:
		return span{m.Boot, m.Low}
	case m.Boot == s.boot:
		return span{s.boot, max(s.low, m.Low)}
	}
	return s
}

// has: does a request, or its answer, lie in it?
func (s span) has(m api.Message) bool {
	return m.Boot == s.boot && m.Seq >= s.low && m.Seq < s.low+api.Window
}
