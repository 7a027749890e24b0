package agenda_test

import (
	"math/rand"
	"slices"
	"testing"

	"sublet/agenda"
	"sublet/api"
)

// forever and room, as the document has them.
const (
	forever = 1 << 62
	room    = 32
)

// item: one of these fields.
func item(due, kind, key int) api.Item {
	return api.Item{Due: due, Kind: api.ItemKind(kind), Key: key}
}

// ahead is below 0 where x comes ahead of y, as the document has the order:
// their numbers as lists, one held against the other.
func ahead(x, y api.Item) int {
	return slices.Compare([]int{x.Due, int(x.Kind), x.Key}, []int{y.Due, int(y.Kind), y.Key})
}

// both: a Kind and a Key.
type both struct{ kind, key int }

// of: the Kind and the Key of an item.
func of(x api.Item) both { return both{int(x.Kind), x.Key} }

// model: what an agenda has to keep, the Due of each Kind and Key.
type model map[both]int

// put answers what Put has to.
func (m model) put(x api.Item) api.Errno {
	if x.Due < 0 || x.Due > forever || !slices.Contains([]int{1, 2, 3, 4}, int(x.Kind)) {
		return api.ErrRange
	}
	if _, there := m[of(x)]; !there && len(m) >= room {
		return api.ErrFull
	}
	m[of(x)] = x.Due
	return api.OK
}

// get answers what Get has to.
func (m model) get(b both) (api.Item, bool) {
	due, there := m[b]
	if !there {
		return api.Item{}, false
	}
	return item(due, b.kind, b.key), true
}

// drop answers what Drop has to.
func (m model) drop(b both) bool {
	_, there := m[b]
	delete(m, b)
	return there
}

// list answers what List has to.
func (m model) list() []api.Item {
	all := []api.Item{}
	for b, due := range m {
		all = append(all, item(due, b.kind, b.key))
	}
	slices.SortFunc(all, ahead)
	return all
}

// first answers what First has to.
func (m model) first() (api.Item, bool) {
	for _, x := range m.list() {
		return x, true
	}
	return api.Item{}, false
}

// take answers what Take has to.
func (m model) take(now int) (api.Item, bool) {
	x, ok := m.first()
	if !ok || x.Due > now {
		return api.Item{}, false
	}
	m.drop(of(x))
	return x, true
}

// copied: a model that goes on apart.
func (m model) copied() model {
	other := model{}
	for b, due := range m {
		other[b] = due
	}
	return other
}

// check holds all that an agenda tells against the model.
func check(t *testing.T, a *agenda.Agenda, m model) {
	t.Helper()
	want := m.list()
	if got := a.List(); !slices.Equal(got, want) {
		t.Fatalf("List = %v, not %v", got, want)
	}
	if a.Len() != len(m) {
		t.Fatalf("Len = %d, not %d", a.Len(), len(m))
	}
	x, there := m.first()
	if got, ok := a.First(); got != x || ok != there {
		t.Fatalf("First = %v, %t, not %v, %t", got, ok, x, there)
	}
	for _, x := range want {
		checkGet(t, a, m, of(x))
	}
}

// checkGet holds what Get answers against the model.
func checkGet(t *testing.T, a *agenda.Agenda, m model, b both) {
	t.Helper()
	want, there := m.get(b)
	if got, ok := a.Get(api.ItemKind(b.kind), b.key); got != want || ok != there {
		t.Fatalf("Get(%d, %d) of %d = %v, %t, not %v, %t", b.kind, b.key, len(m), got, ok, want, there)
	}
}

// Each of these does one thing to an agenda and to the model, and holds the
// answers against each other.

func put(t *testing.T, a *agenda.Agenda, m model, x api.Item) api.Errno {
	t.Helper()
	many := len(m)
	want := m.put(x)
	if got := a.Put(x); got != want {
		t.Fatalf("Put(%v) to %d items = %d, not %d", x, many, got, want)
	}
	return want
}

func drop(t *testing.T, a *agenda.Agenda, m model, b both) {
	t.Helper()
	many := len(m)
	want := m.drop(b)
	if ok := a.Drop(api.ItemKind(b.kind), b.key); ok != want {
		t.Fatalf("Drop(%d, %d) of %d = %t", b.kind, b.key, many, ok)
	}
}

func take(t *testing.T, a *agenda.Agenda, m model, now int) (api.Item, bool) {
	t.Helper()
	many := len(m)
	want, there := m.take(now)
	if x, ok := a.Take(now); x != want || ok != there {
		t.Fatalf("Take(%d) of %d = %v, %t, not %v, %t", now, many, x, ok, want, there)
	}
	return want, there
}

// made: an agenda of these items, put in one behind the other, and its model.
func made(t *testing.T, items ...api.Item) (*agenda.Agenda, model) {
	t.Helper()
	a, m := agenda.New(), model{}
	for _, x := range items {
		put(t, a, m, x)
	}
	check(t, a, m)
	return a, m
}

// some: so many items, no two of one Kind and Key, with few Dues, so that many
// of them are alike in the Due, and some in the Kind too.
func some(dice *rand.Rand, count int) []api.Item {
	var items []api.Item
	for i := range count {
		items = append(items, item(10*dice.Intn(5), 1+i%4, i/4*(1-i%8/4*2)))
	}
	dice.Shuffle(count, func(i, j int) { items[i], items[j] = items[j], items[i] })
	return items
}

// step does any one thing to an agenda and to its model.
func step(t *testing.T, dice *rand.Rand, a *agenda.Agenda, m model) {
	t.Helper()
	b := both{1 + dice.Intn(4), dice.Intn(13) - 6}
	due := dice.Intn(20)
	switch dice.Intn(20) {
	case 0:
		b.key = keys[dice.Intn(len(keys))]
	case 1:
		b.kind = kinds[dice.Intn(len(kinds))]
	case 2:
		due = dues[dice.Intn(len(dues))]
	}
	switch dice.Intn(8) {
	case 0:
		drop(t, a, m, b)
	case 1:
		take(t, a, m, due)
	case 2:
		checkGet(t, a, m, b)
	default:
		put(t, a, m, item(due, b.kind, b.key))
	}
}
