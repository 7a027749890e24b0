package calls_test

import (
	"math/rand"
	"reflect"
	"regexp"
	"slices"
	"testing"

	"sublet/api"
	"sublet/calls"
	"sublet/wire"
)

// The limits, as the document has them.
const (
	maxTime  = 1 << 60
	maxCount = 1 << 40
	minTerm  = 4
	maxTerm  = 1 << 20
	maxOpen  = 4
	window   = 8
)

// pathForm says what a path is.
var pathForm = regexp.MustCompile(`\A([a-z0-9]{1,6}(/[a-z0-9]{1,6}){0,3})?\z`)

// acquire, renew and release: calls that may be.
func acquire(to int, path string, mode api.Mode, term int) api.Call {
	return api.Call{To: to, Verb: 1, Path: path, Mode: mode, Term: term}
}

func renew(to, id, term int, fresh bool) api.Call {
	return api.Call{To: to, Verb: 2, Id: id, Term: term, Fresh: fresh}
}

func release(to, id int) api.Call { return api.Call{To: to, Verb: 3, Id: id} }

func in(n, from, to int) bool { return from <= n && n <= to }

// mayAsk: whether there is an Ask with the call's fields that may be, as the
// document's table says; what the verb doesn't use has to be zero.
func mayAsk(x api.Call) bool {
	used := api.Call{Seq: x.Seq, Sent: x.Sent, Tries: x.Tries, To: x.To, Verb: x.Verb}
	good := in(x.To, 0, 7)
	switch x.Verb {
	case 1:
		used.Path, used.Mode, used.Term = x.Path, x.Mode, x.Term
		good = good && pathForm.MatchString(x.Path) && in(int(x.Mode), 1, 2) && in(x.Term, minTerm, maxTerm)
	case 2:
		used.Id, used.Term, used.Fresh = x.Id, x.Term, x.Fresh
		good = good && in(x.Id, 1, maxCount) && in(x.Term, minTerm, maxTerm)
	case 3:
		used.Id = x.Id
		good = good && in(x.Id, 1, maxCount)
	default:
		return false
	}
	return good && x == used
}

// model: what calls have to keep, those that are open as a list that rises.
type model struct {
	boot, next int
	open       []api.Call
}

// place: where the open call stands; -1, if there is none.
func (m *model) place(seq int) int {
	return slices.IndexFunc(m.open, func(x api.Call) bool { return x.Seq == seq })
}

func (m *model) low() int {
	if len(m.open) == 0 {
		return m.next
	}
	return m.open[0].Seq
}

// start answers what Open has to.
func (m *model) start(now int, x api.Call) (int, api.Errno) {
	switch {
	case !in(now, 0, maxTime):
		return 0, api.ErrRange
	case !mayAsk(x):
		return 0, api.ErrKind
	case m.next > maxCount:
		return 0, api.ErrCounts
	case len(m.open) >= maxOpen || m.next-m.low() >= window:
		return 0, api.ErrBusy
	}
	x.Seq, x.Sent, x.Tries = m.next, now, 1
	m.open = append(m.open, x)
	m.next++
	return x.Seq, api.OK
}

// get answers what Get has to.
func (m *model) get(seq int) (api.Call, bool) {
	if i := m.place(seq); i >= 0 {
		return m.open[i], true
	}
	return api.Call{}, false
}

// again answers what Again has to.
func (m *model) again(seq int) (api.Call, bool) {
	i := m.place(seq)
	if i >= 0 {
		m.open[i].Tries++
	}
	return m.get(seq)
}

// end answers what Close has to.
func (m *model) end(seq int) (api.Call, bool) {
	x, ok := m.get(seq)
	m.open = slices.DeleteFunc(m.open, func(y api.Call) bool { return y.Seq == seq })
	return x, ok
}

// ask answers what Ask has to.
func (m *model) ask(from, seq int) (api.Message, bool) {
	x, ok := m.get(seq)
	if !ok || !in(from, 0, 7) || from == x.To {
		return api.Message{}, false
	}
	return api.Message{
		Kind: 1, From: from, To: x.To, Boot: m.boot, Seq: seq, Low: m.low(), Verb: x.Verb,
		Path: x.Path, Mode: x.Mode, Term: x.Term, Id: x.Id, Fresh: x.Fresh,
	}, true
}

// made: calls of this boot, and their model.
func made(t *testing.T, boot int) (*calls.Calls, *model) {
	t.Helper()
	c, e := calls.New(boot)
	if c == nil || e != api.OK {
		t.Fatalf("New(%d) = %v, %d", boot, c, e)
	}
	m := &model{boot: boot, next: 1}
	check(t, c, m)
	return c, m
}

// opened: calls with these open.
func opened(t *testing.T, boot int, all ...api.Call) (*calls.Calls, *model) {
	t.Helper()
	c, m := made(t, boot)
	for i, x := range all {
		if _, e := open(t, c, m, 10*i, x); e != api.OK {
			t.Fatalf("Open(%d, %v) = %d", 10*i, x, e)
		}
	}
	return c, m
}

// check holds all that calls tell against the model.
func check(t *testing.T, c *calls.Calls, m *model) {
	t.Helper()
	if got := c.List(); !slices.Equal(got, m.open) {
		t.Fatalf("List = %v, not %v", got, m.open)
	}
	if c.Boot() != m.boot || c.Low() != m.low() {
		t.Fatalf("Boot = %d, Low = %d, not %d, %d", c.Boot(), c.Low(), m.boot, m.low())
	}
	for seq := m.next - window - 1; seq <= m.next+1; seq++ {
		checkGet(t, c, m, seq)
		checkAsk(t, c, m, 0, seq)
		checkAsk(t, c, m, 7, seq)
	}
}

// checkGet holds what Get answers against the model.
func checkGet(t *testing.T, c *calls.Calls, m *model, seq int) {
	t.Helper()
	want, there := m.get(seq)
	if x, ok := c.Get(seq); x != want || ok != there {
		t.Fatalf("Get(%d) = %v, %t, not %v, %t", seq, x, ok, want, there)
	}
}

// checkAsk holds what Ask answers against the model, and sees to it that it is
// a message that may be.
func checkAsk(t *testing.T, c *calls.Calls, m *model, from, seq int) {
	t.Helper()
	want, there := m.ask(from, seq)
	got, ok := c.Ask(from, seq)
	if !reflect.DeepEqual(got, want) || ok != there {
		t.Fatalf("Ask(%d, %d) = %v, %t, not %v, %t", from, seq, got, ok, want, there)
	}
	if ok && !wire.Valid(got) {
		t.Fatalf("Ask(%d, %d) = %v, which may not be", from, seq, got)
	}
}

// Each of these does one thing to calls and to the model, and holds the answers
// against each other.

func open(t *testing.T, c *calls.Calls, m *model, now int, x api.Call) (int, api.Errno) {
	t.Helper()
	want, bad := m.start(now, x)
	if seq, e := c.Open(now, x); seq != want || e != bad {
		t.Fatalf("Open(%d, %v) = %d, %d, not %d, %d", now, x, seq, e, want, bad)
	}
	return want, bad
}

func again(t *testing.T, c *calls.Calls, m *model, seq int) {
	t.Helper()
	want, there := m.again(seq)
	if x, ok := c.Again(seq); x != want || ok != there {
		t.Fatalf("Again(%d) = %v, %t, not %v, %t", seq, x, ok, want, there)
	}
}

func end(t *testing.T, c *calls.Calls, m *model, seq int) {
	t.Helper()
	want, there := m.end(seq)
	if x, ok := c.Close(seq); x != want || ok != there {
		t.Fatalf("Close(%d) = %v, %t, not %v, %t", seq, x, ok, want, there)
	}
}

// some: any call, mostly one that may be.
func some(dice *rand.Rand) api.Call {
	to, id, term := dice.Intn(8), 1+dice.Intn(9), 4+dice.Intn(9)
	switch dice.Intn(10) {
	case 0:
		return api.Call{To: to, Verb: api.Verb(dice.Intn(6) - 1), Id: id}
	case 1:
		return acquire(to+dice.Intn(2), "a", api.Mode(dice.Intn(4)), term)
	case 2, 3, 4:
		return acquire(to, []string{"", "a", "a/b", "c9/d/e/f"}[dice.Intn(4)], api.Mode(1+dice.Intn(2)), term)
	case 5, 6:
		return release(to, id)
	}
	return renew(to, id, term, dice.Intn(2) == 0)
}

// step does any one thing to calls and to their model.
func step(t *testing.T, dice *rand.Rand, c *calls.Calls, m *model) {
	t.Helper()
	seq := m.next + 1 - dice.Intn(window+3)
	switch dice.Intn(8) {
	case 0:
		again(t, c, m, seq)
	case 1:
		checkAsk(t, c, m, dice.Intn(10)-1, seq)
	case 2, 3, 4:
		end(t, c, m, seq)
	default:
		x := some(dice)
		x.Seq, x.Sent, x.Tries = dice.Intn(9)-2, dice.Intn(9)-2, dice.Intn(9)-2
		open(t, c, m, dice.Intn(40)-1, x)
	}
}
