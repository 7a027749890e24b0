package wire

import (
	"sublet/api"
	"sublet/octets"
)

// layout of a kind's fields, behind those that all kinds have.
type layout struct {
	lay  func(*writer, api.Message)
	take func(*reader, *api.Message)
	may  func(api.Message) bool // may these fields be so, whatever the others are?
}

// layoutOf: a kind's; false, if there is no such kind.
func layoutOf(k api.Kind) (layout, bool) {
	layouts := [...]layout{
		api.Ask:    {(*writer).ask, (*reader).ask, mayAsk},
		api.Reply:  {(*writer).reply, (*reader).reply, mayReply},
		api.Recall: {(*writer).recall, (*reader).recall, mayRecall},
		api.Done:   {(*writer).done, (*reader).done, mayDone},
		api.Op:     {(*writer).op, (*reader).op, mayOp},
	}
	if k < api.Ask || k > api.Op {
		return layout{}, false
	}
	return layouts[k], true
}

// writer lays a message's fields down.
type writer struct{ octets.Writer }

func (w *writer) ask(m api.Message) {
	w.nums(m.Boot, m.Seq, m.Low, int(m.Verb))
	switch m.Verb {
	case api.Acquire:
		w.Text(m.Path)
		w.nums(int(m.Mode), m.Term)
	case api.Renew:
		w.nums(m.Id, m.Term)
		w.flag(m.Fresh)
	case api.Release:
		w.Num(m.Id)
	}
}

func (w *writer) reply(m api.Message) {
	w.nums(m.Boot, m.Seq, int(m.Code))
	if m.Code == api.OK {
		w.nums(m.Id, m.Term)
		w.stamp(m.Stamp)
	}
}

func (w *writer) recall(m api.Message) {
	w.Num(m.Id)
	w.Text(m.Path)
	w.nums(m.Origin, m.Number)
}

func (w *writer) done(m api.Message) { w.nums(m.Id, m.Origin, m.Number) }

func (w *writer) op(m api.Message) {
	w.Text(m.Path)
	w.Num(int(m.Mode))
	w.stamp(m.Stamp)
}

// nums: numbers, one behind the other.
func (w *writer) nums(ns ...int) {
	for _, n := range ns {
		w.Num(n)
	}
}

// flag: 1 or 0.
func (w *writer) flag(on bool) {
	if on {
		w.Num(1)
	} else {
		w.Num(0)
	}
}

// stamp: how many counters it has, and these.
func (w *writer) stamp(s []int) {
	w.Num(len(s))
	w.nums(s...)
}

// reader takes them up in the same order.
type reader struct{ *octets.Reader }

func (r *reader) ask(m *api.Message) {
	m.Boot, m.Seq, m.Low, m.Verb = r.Num(), r.Num(), r.Num(), api.Verb(r.Num())
	switch m.Verb {
	case api.Acquire:
		m.Path, m.Mode, m.Term = r.path(), api.Mode(r.Num()), r.Num()
	case api.Renew:
		m.Id, m.Term, m.Fresh = r.Num(), r.Num(), r.flag()
	case api.Release:
		m.Id = r.Num()
	}
}

func (r *reader) reply(m *api.Message) {
	m.Boot, m.Seq, m.Code = r.Num(), r.Num(), api.Errno(r.Num())
	if m.Code == api.OK {
		m.Id, m.Term, m.Stamp = r.Num(), r.Num(), r.stamp()
	}
}

func (r *reader) recall(m *api.Message) {
	m.Id, m.Path, m.Origin, m.Number = r.Num(), r.path(), r.Num(), r.Num()
}

func (r *reader) done(m *api.Message) {
	m.Id, m.Origin, m.Number = r.Num(), r.Num(), r.Num()
}

func (r *reader) op(m *api.Message) {
	m.Path, m.Mode, m.Stamp = r.path(), api.Mode(r.Num()), r.stamp()
}

// path: a text, of no more bytes than a packet has room for.
func (r *reader) path() string { return r.Text(api.MaxPacket) }

// flag: whether it is 1.
func (r *reader) flag() bool { return r.Num() == 1 }

// stamp: as many counters as the bytes say, but never more than a stamp may
// have: bytes can say any number.
func (r *reader) stamp() []int {
	var s []int
	for range min(r.Num(), api.MaxDepth) {
		s = append(s, r.Num())
	}
	return s
}
