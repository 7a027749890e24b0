package agenda_test

import (
	"math"
	"math/rand"
	"slices"
	"testing"

	"sublet/agenda"
	"sublet/api"
)

// dues, kinds and keys: numbers that may and may not be a Due, a Kind and a Key,
// the least and the greatest among them, and those at which numbers of fewer
// bits would be taken for one another.
var (
	dues  = []int{math.MinInt, math.MinInt + 1, -1 << 32, -2, -1, 0, 1, 2, 255, 256, 1 << 32, 1<<32 + 1, 1 << 60, forever - 1, forever, forever + 1, math.MaxInt - 1, math.MaxInt}
	kinds = []int{math.MinInt, -1 << 32, 1 - 1<<32, -4, -1, 0, 1, 2, 3, 4, 5, 6, 256, 257, 1<<32 + 1, math.MaxInt}
	keys  = []int{math.MinInt, math.MinInt + 1, -1<<32 - 1, -1 << 32, -256, -2, -1, 0, 1, 2, 255, 256, 257, 1 << 32, 1<<32 + 1, forever, math.MaxInt - 1, math.MaxInt}
)

// sizes: of how many items the tests make agendas.
var sizes = []int{0, 1, 2, 3, 7, 31, 32}

func TestExampleOfTheDocument(t *testing.T) {
	a := agenda.New()
	for _, x := range []api.Item{item(9, 1, 5), item(3, 2, 1), item(3, 1, 7)} {
		if e := a.Put(x); e != api.OK {
			t.Errorf("Put(%v) = %d", x, e)
		}
	}
	if x, ok := a.First(); !ok || x != item(3, 1, 7) {
		t.Errorf("First = %v, %t", x, ok)
	}
	for _, c := range []struct {
		now  int
		want api.Item
	}{{2, api.Item{}}, {5, item(3, 1, 7)}, {5, item(3, 2, 1)}, {5, api.Item{}}} {
		if x, ok := a.Take(c.now); x != c.want || ok != (c.want.Due == 3) {
			t.Errorf("Take(%d) = %v, %t, not %v", c.now, x, ok, c.want)
		}
	}
	if e := a.Put(item(1, 1, 5)); e != api.OK {
		t.Errorf("Put of what is there = %d", e)
	}
	if x, ok := a.Get(1, 5); !ok || x != item(1, 1, 5) || a.Len() != 1 {
		t.Errorf("Get(1, 5) = %v, %t, of %d", x, ok, a.Len())
	}
	for _, x := range []api.Item{item(-1, 1, 1), item(1, 5, 1)} {
		if e := a.Put(x); e != api.ErrRange {
			t.Errorf("Put(%v) = %d", x, e)
		}
	}
}

// Types.

// checkEmpty holds each call but Put, at all numbers, against an agenda without
// items.
func checkEmpty(t *testing.T, a *agenda.Agenda) {
	t.Helper()
	if a.Len() != 0 || len(a.List()) != 0 {
		t.Errorf("Len = %d, List = %v", a.Len(), a.List())
	}
	if x, ok := a.First(); ok || x != (api.Item{}) {
		t.Errorf("First = %v, %t", x, ok)
	}
	for _, now := range dues {
		if x, ok := a.Take(now); ok || x != (api.Item{}) {
			t.Errorf("Take(%d) = %v, %t", now, x, ok)
		}
	}
	for _, kind := range kinds {
		for _, key := range keys {
			if x, ok := a.Get(api.ItemKind(kind), key); ok || x != (api.Item{}) {
				t.Errorf("Get(%d, %d) = %v, %t", kind, key, x, ok)
			}
			if a.Drop(api.ItemKind(kind), key) {
				t.Errorf("Drop(%d, %d) is true", kind, key)
			}
		}
	}
}

func TestNewAgendaIsEmpty(t *testing.T) {
	a := agenda.New()
	if a == nil {
		t.Fatal("New answers nil")
	}
	checkEmpty(t, a)
	check(t, a, model{})
}

// An agenda whose items have all gone is as a new one.
func TestAgendaIsEmptyAgain(t *testing.T) {
	for _, size := range sizes {
		items := some(rand.New(rand.NewSource(int64(size))), size)
		a, m := made(t, items...)
		for range items {
			take(t, a, m, forever)
		}
		checkEmpty(t, a)
		a, m = made(t, items...)
		for _, x := range items {
			drop(t, a, m, of(x))
		}
		checkEmpty(t, a)
		for _, x := range items {
			put(t, a, m, x)
		}
		check(t, a, m)
	}
}

// An Agenda that New didn't make is an empty one.
func TestZeroAgenda(t *testing.T) {
	a, m := &agenda.Agenda{}, model{}
	checkEmpty(t, a)
	for i := range 40 {
		put(t, a, m, item(100-i, 1+i%4, i))
		check(t, a, m)
	}
}

// Whatever is put, ErrNil is named ahead of what else is wrong with it.
func TestNilAgenda(t *testing.T) {
	var a *agenda.Agenda
	for _, due := range dues {
		for _, kind := range kinds {
			for _, key := range keys {
				if e := a.Put(item(due, kind, key)); e != api.ErrNil {
					t.Errorf("Put(%d, %d, %d) = %d", due, kind, key, e)
				}
			}
		}
	}
	checkEmpty(t, a)
}

// P13.1.

func TestPutOfAnyDue(t *testing.T) {
	for _, c := range []struct {
		due  int
		want api.Errno
	}{{math.MinInt, api.ErrRange}, {-2, api.ErrRange}, {-1, api.ErrRange}, {0, api.OK}, {1, api.OK}, {1 << 32, api.OK}, {1 << 60, api.OK}, {1<<60 + 1, api.OK}, {1<<62 - 1, api.OK}, {1 << 62, api.OK}, {1<<62 + 1, api.ErrRange}, {math.MaxInt, api.ErrRange}} {
		for kind := 1; kind <= 4; kind++ {
			a, m := made(t)
			if e := put(t, a, m, item(c.due, kind, 9)); e != c.want {
				t.Errorf("Put of Due %d = %d, not %d", c.due, e, c.want)
			}
			check(t, a, m)
		}
	}
}

func TestPutOfAnyKind(t *testing.T) {
	for _, c := range []struct {
		kind int
		want api.Errno
	}{{math.MinInt, api.ErrRange}, {1 - 1<<32, api.ErrRange}, {-1, api.ErrRange}, {0, api.ErrRange}, {1, api.OK}, {2, api.OK}, {3, api.OK}, {4, api.OK}, {5, api.ErrRange}, {257, api.ErrRange}, {1<<32 + 1, api.ErrRange}, {math.MaxInt, api.ErrRange}} {
		for _, due := range []int{0, 7, forever} {
			a, m := made(t)
			if e := put(t, a, m, item(due, c.kind, 9)); e != c.want {
				t.Errorf("Put of Kind %d = %d, not %d", c.kind, e, c.want)
			}
			check(t, a, m)
		}
	}
}

// All of them are in at once, so no two are taken for one another.
func TestPutOfAnyKey(t *testing.T) {
	for kind := 1; kind <= 4; kind++ {
		a, m := made(t)
		for i, key := range keys {
			if e := put(t, a, m, item(5, kind, key)); e != api.OK || a.Len() != i+1 {
				t.Errorf("Put of Key %d = %d, Len %d", key, e, a.Len())
			}
			check(t, a, m)
		}
	}
}

func TestPutUntilTheAgendaIsFull(t *testing.T) {
	a, m := made(t)
	for i := range 31 {
		put(t, a, m, item(i*i%50, 1+i%4, i))
	}
	for i, want := range []api.Errno{api.OK, api.ErrFull, api.ErrFull} {
		if e := put(t, a, m, item(9, 2, 100+i)); e != want {
			t.Errorf("Put to %d items = %d, not %d", min(31+i, 32), e, want)
		}
		check(t, a, m)
	}
	for n, leave := range []func(){func() { drop(t, a, m, both{3, 6}) }, func() { take(t, a, m, forever) }} {
		leave()
		check(t, a, m)
		for i, want := range []api.Errno{api.OK, api.ErrFull} {
			if e := put(t, a, m, item(9, 3, 1000+10*n+i)); e != want {
				t.Errorf("Put to %d items = %d, not %d", 31+i, e, want)
			}
			check(t, a, m)
		}
	}
}

// Each item of agendas of any size, a full one too, is moved to ahead of all
// others, among them, and behind them, and none is added.
func TestPutOfWhatIsThereMovesIt(t *testing.T) {
	dice := rand.New(rand.NewSource(131))
	for _, size := range sizes {
		items := some(dice, size)
		for _, x := range items {
			for _, due := range []int{0, 1, x.Due, 20, 39, 40, 41, forever - 1, forever} {
				a, m := made(t, items...)
				moved := item(due, int(x.Kind), x.Key)
				if e := put(t, a, m, moved); e != api.OK || a.Len() != size {
					t.Errorf("Put(%v) where %v is = %d, Len %d, not %d", moved, x, e, a.Len(), size)
				}
				if got, ok := a.Get(x.Kind, x.Key); !ok || got != moved {
					t.Errorf("Get = %v, %t, not %v", got, ok, moved)
				}
				check(t, a, m)
			}
		}
	}
}

// A move that is refused leaves the item where it was.
func TestPutOfWhatIsThereWithADueThatMayNotBe(t *testing.T) {
	for _, size := range sizes[1:] {
		items := some(rand.New(rand.NewSource(132)), size)
		a, m := made(t, items...)
		for _, x := range items {
			for _, due := range []int{math.MinInt, -1, forever + 1, math.MaxInt} {
				if e := put(t, a, m, item(due, int(x.Kind), x.Key)); e != api.ErrRange {
					t.Errorf("Put of Due %d = %d", due, e)
				}
				check(t, a, m)
			}
		}
	}
}

// A full agenda, and a Due or a Kind that may not be: the latter is named first.
func TestPutNamesTheFirstError(t *testing.T) {
	for _, size := range sizes {
		a, m := made(t, some(rand.New(rand.NewSource(133)), size)...)
		full := api.OK
		if size == 32 {
			full = api.ErrFull
		}
		for _, c := range []struct {
			x    api.Item
			want api.Errno
		}{
			{item(-1, 1, 100), api.ErrRange},
			{item(forever+1, 4, 100), api.ErrRange},
			{item(0, 0, 100), api.ErrRange},
			{item(forever, 5, 100), api.ErrRange},
			{item(-1, 0, 100), api.ErrRange},
			{item(forever+1, 5, 100), api.ErrRange},
			{item(0, 1, 100), full},
			{item(forever, 4, 100), full},
		} {
			if e := put(t, a, m, c.x); e != c.want {
				t.Errorf("Put(%v) to %d items = %d, not %d", c.x, size, e, c.want)
			}
			check(t, a, m)
			drop(t, a, m, of(c.x))
		}
	}
}

// Of items with one Key and each Kind, and with one Kind and many Keys, Get and
// Drop tell the one with both, and no other.
func TestGetAndDropTellJustTheItemWithBoth(t *testing.T) {
	var items []api.Item
	for kind := 1; kind <= 4; kind++ {
		for _, key := range []int{-7, 0, 7, 1<<32 + 7, math.MaxInt} {
			items = append(items, item(kind*key%5+10, kind, key))
		}
	}
	items = slices.DeleteFunc(items, func(x api.Item) bool { return x.Kind == 3 && x.Key == 7 })
	for _, kind := range kinds {
		for _, key := range append([]int{-7, 7, 1<<32 + 7}, keys...) {
			a, m := made(t, items...)
			there := slices.ContainsFunc(items, func(x api.Item) bool { return of(x) == both{kind, key} })
			checkGet(t, a, m, both{kind, key})
			if x, ok := a.Get(api.ItemKind(kind), key); ok != there || ok && of(x) != (both{kind, key}) {
				t.Errorf("Get(%d, %d) = %v, %t", kind, key, x, ok)
			}
			check(t, a, m)
			drop(t, a, m, both{kind, key})
			check(t, a, m)
			if _, ok := a.Get(api.ItemKind(kind), key); ok || a.Drop(api.ItemKind(kind), key) {
				t.Errorf("%d, %d is there behind its Drop", kind, key)
			}
			check(t, a, m)
		}
	}
}

// Each item of agendas of any size goes out, and the others stay in order.
func TestDropOfEachItem(t *testing.T) {
	dice := rand.New(rand.NewSource(134))
	for _, size := range sizes {
		items := some(dice, size)
		for _, x := range items {
			a, m := made(t, items...)
			if !a.Drop(x.Kind, x.Key) {
				t.Errorf("Drop of %v is false", x)
			}
			m.drop(of(x))
			check(t, a, m)
			for range items {
				take(t, a, m, forever)
			}
		}
	}
}

// P13.2.

// ordered: items in the document's order, each ahead of the next one by the
// least that can be.
func ordered() []api.Item {
	return []api.Item{
		item(0, 1, math.MinInt), item(0, 1, math.MinInt+1), item(0, 1, -1), item(0, 1, 0), item(0, 1, 1), item(0, 1, math.MaxInt),
		item(0, 2, math.MinInt), item(0, 3, -5), item(0, 4, -9),
		item(1, 1, 9), item(1, 2, 8), item(1, 3, 7), item(1, 4, 6),
		item(2, 1, 8), item(2, 1, 10), item(2, 3, -1),
		item(1<<32, 1, 3), item(1<<32+1, 1, 2),
		item(forever-1, 4, math.MaxInt), item(forever, 1, -1<<40), item(forever, 2, math.MaxInt), item(forever, 4, 1<<62),
	}
}

func TestItemsStandInOrder(t *testing.T) {
	want := ordered()
	dice := rand.New(rand.NewSource(135))
	for range 200 {
		items := slices.Clone(want)
		dice.Shuffle(len(items), func(i, j int) { items[i], items[j] = items[j], items[i] })
		a, _ := made(t, items...)
		if got := a.List(); !slices.Equal(got, want) {
			t.Fatalf("List = %v, not %v", got, want)
		}
		for i, x := range want {
			if first, ok := a.First(); !ok || first != x {
				t.Fatalf("First = %v, %t, not %v", first, ok, x)
			}
			if got := a.List(); !slices.Equal(got, want[i:]) || a.Len() != len(want)-i {
				t.Fatalf("List of %d = %v, not %v", a.Len(), got, want[i:])
			}
			if took, ok := a.Take(forever); !ok || took != x {
				t.Fatalf("Take = %v, %t, not %v", took, ok, x)
			}
		}
	}
}

// Of each two items the first in order is told first, whichever came first.
func TestOrderOfTwoItems(t *testing.T) {
	all := ordered()
	for i, x := range all {
		for _, y := range all[i+1:] {
			for _, items := range [][]api.Item{{x, y}, {y, x}} {
				a, _ := made(t, items...)
				if first, ok := a.First(); !ok || first != x {
					t.Errorf("First of %v = %v, %t", items, first, ok)
				}
				if got := a.List(); !slices.Equal(got, []api.Item{x, y}) {
					t.Errorf("List of %v = %v", items, got)
				}
			}
		}
	}
}

func TestTakeAheadOfTheFirstDueAtItAndBehindIt(t *testing.T) {
	for _, due := range []int{0, 1, 5, 1 << 32, 1 << 60, forever - 1, forever} {
		for _, c := range []struct {
			now  int
			want bool
		}{{math.MinInt, false}, {-1, false}, {due - 1, false}, {due, true}, {due + 1, true}, {math.MaxInt, true}} {
			x := item(due, 4, -3)
			a, m := made(t, x, item(forever, 4, 1), item(min(due+1, forever), 4, 2))
			if got, ok := take(t, a, m, c.now); ok != c.want || ok && got != x {
				t.Errorf("Take(%d) of Due %d = %v, %t", c.now, due, got, ok)
			}
			check(t, a, m)
		}
	}
}

// A Take ahead of its time changes nothing, and gives nothing away.
func TestTakeOfNothingChangesNothing(t *testing.T) {
	for _, size := range sizes {
		var items []api.Item
		for i := range size {
			items = append(items, item(100+i*7%11, 1+i%4, -i))
		}
		a, m := made(t, items...)
		for _, now := range []int{math.MinInt, -1, 0, 1, 99} {
			if x, ok := a.Take(now); ok || x != (api.Item{}) {
				t.Errorf("Take(%d) = %v, %t", now, x, ok)
			}
			check(t, a, m)
		}
	}
}

// First and Get leave the item in, and Take doesn't.
func TestFirstAndGetTakeNothing(t *testing.T) {
	x := item(5, 2, 3)
	a, m := made(t, x)
	for range 3 {
		check(t, a, m)
	}
	if got, ok := a.Take(5); !ok || got != x {
		t.Errorf("Take(5) = %v, %t", got, ok)
	}
	checkEmpty(t, a)
}

func TestLenAndListOfAnyCount(t *testing.T) {
	a := agenda.New()
	for i := range 40 {
		a.Put(item(100-i, 2, i))
		list := a.List()
		if want := min(i+1, 32); a.Len() != want || len(list) != want {
			t.Fatalf("Len %d, and %d items in the List, not %d", a.Len(), len(list), want)
		}
		for k, x := range list {
			if key := len(list) - 1 - k; x != item(100-key, 2, key) {
				t.Fatalf("List has %v at %d", x, k)
			}
		}
	}
}

// P13.3.

// due: those of the items that are due at now, in order, and the others.
func due(items []api.Item, now int) (ready, later []api.Item) {
	items = slices.SortedFunc(slices.Values(items), ahead)
	for _, x := range items {
		if x.Due <= now {
			ready = append(ready, x)
		} else {
			later = append(later, x)
		}
	}
	return ready, later
}

func TestTakeAgainAndAgain(t *testing.T) {
	dice := rand.New(rand.NewSource(136))
	for _, size := range sizes {
		for _, now := range append([]int{9, 10, 11, 20, 29, 30, 31, 39, 40, 41}, dues...) {
			items := some(dice, size)
			a, _ := made(t, items...)
			ready, later := due(items, now)
			for i, want := range ready {
				if x, ok := a.Take(now); !ok || x != want {
					t.Fatalf("Take(%d), the %dth, = %v, %t, not %v", now, i, x, ok, want)
				}
			}
			for range 3 {
				if x, ok := a.Take(now); ok || x != (api.Item{}) {
					t.Fatalf("Take(%d), one too many, = %v, %t", now, x, ok)
				}
			}
			if got := a.List(); !slices.Equal(got, later) || a.Len() != len(later) {
				t.Fatalf("behind Take(%d): %v, not %v", now, got, later)
			}
		}
	}
}

// What has been taken is taken once more where it has been put once more.
func TestTakenItemsMayBePutAgain(t *testing.T) {
	a, m := made(t, some(rand.New(rand.NewSource(137)), 32)...)
	for i := range 300 {
		x, ok := take(t, a, m, i+50)
		if !ok {
			continue
		}
		put(t, a, m, item(i+50+i%9, int(x.Kind), x.Key))
		check(t, a, m)
	}
}

// P13.4.

// orders calls one with each order of the items.
func orders(items []api.Item, one func([]api.Item)) {
	var from func(k int)
	from = func(k int) {
		if k == len(items) {
			one(items)
			return
		}
		for i := k; i < len(items); i++ {
			items[k], items[i] = items[i], items[k]
			from(k + 1)
			items[k], items[i] = items[i], items[k]
		}
	}
	from(0)
}

func TestEachOrderOfFewItems(t *testing.T) {
	want := []api.Item{item(3, 1, 7), item(3, 1, 8), item(3, 2, 1), item(4, 1, 0), item(9, 1, 5), item(9, 4, -5)}
	orders(slices.Clone(want), func(items []api.Item) {
		a, m := made(t, items...)
		if got := a.List(); !slices.Equal(got, want) {
			t.Fatalf("List of %v = %v", items, got)
		}
		for range want {
			take(t, a, m, 10)
		}
		checkEmpty(t, a)
	})
}

// reached: an agenda of just these items, which came in any order, each of them
// by way of other Dues, and with others that went.
func reached(t *testing.T, dice *rand.Rand, items []api.Item) *agenda.Agenda {
	t.Helper()
	a, m := made(t)
	for range dice.Intn(60) {
		step(t, dice, a, m)
	}
	for _, x := range a.List() {
		if !slices.ContainsFunc(items, func(y api.Item) bool { return of(x) == of(y) }) {
			drop(t, a, m, of(x))
		}
	}
	for _, i := range dice.Perm(len(items)) {
		x := items[i]
		for range dice.Intn(3) {
			put(t, a, m, item(dice.Intn(60), int(x.Kind), x.Key))
		}
		put(t, a, m, x)
	}
	return a
}

func TestOrderOfComingAndOfMovesCountsForNothing(t *testing.T) {
	dice := rand.New(rand.NewSource(138))
	for _, size := range sizes {
		for range 30 {
			items := some(dice, size)
			a, m := made(t, items...)
			b := reached(t, dice, items)
			now := dice.Intn(50)
			for range size + 1 {
				check(t, b, m)
				if x, y := a.List(), b.List(); !slices.Equal(x, y) || a.Len() != b.Len() {
					t.Fatalf("%v and %v", x, y)
				}
				want, there := take(t, a, m, now)
				if x, ok := b.Take(now); x != want || ok != there {
					t.Fatalf("Take(%d) = %v, %t, not %v, %t", now, x, ok, want, there)
				}
			}
		}
	}
}

func TestAnySteps(t *testing.T) {
	dice := rand.New(rand.NewSource(139))
	for range 40 {
		a, m := made(t)
		for range 500 {
			step(t, dice, a, m)
			check(t, a, m)
			if a.Len() > api.MaxItems {
				t.Fatalf("Len %d", a.Len())
			}
		}
	}
}

// R4.

func TestRefusedItemsChangeNothing(t *testing.T) {
	dice := rand.New(rand.NewSource(140))
	for _, size := range sizes {
		a, m := made(t, some(dice, size)...)
		for range 300 {
			x := item(dues[dice.Intn(len(dues))], kinds[dice.Intn(len(kinds))], keys[dice.Intn(len(keys))])
			before := a.List()
			if put(t, a, m, x) != api.OK && !slices.Equal(a.List(), before) {
				t.Fatalf("Put(%v) was refused, and %v is %v now", x, before, a.List())
			}
			check(t, a, m)
		}
	}
}

// R6.

// spoil: all of a list, its spare room too, becomes this item.
func spoil(list []api.Item, x api.Item) {
	list = list[:cap(list)]
	for i := range list {
		list[i] = x
	}
}

func TestAnsweredListsShareNoMemory(t *testing.T) {
	for _, size := range sizes {
		a, m := made(t, some(rand.New(rand.NewSource(141)), size)...)
		first, second := a.List(), a.List()
		spoil(first, item(777, 7, 777))
		check(t, a, m)
		spoil(second, item(888, 8, 888))
		check(t, a, m)
		for _, x := range first[:cap(first)] {
			if x != item(777, 7, 777) {
				t.Errorf("two lists of %d share memory", size)
			}
		}
		_ = append(first, item(999, 9, 999))
		check(t, a, m)
		if size == 0 {
			put(t, a, m, item(1, 1, 1))
			check(t, a, m)
		}
	}
}

// An answer stays what it was, whatever is done to the agenda behind it.
func TestAnswersStay(t *testing.T) {
	dice := rand.New(rand.NewSource(142))
	for _, size := range sizes {
		a, m := made(t, some(dice, size)...)
		list, want := a.List(), m.list()
		for range 300 {
			step(t, dice, a, m)
		}
		if !slices.Equal(list, want) {
			t.Errorf("what List answered is now %v, not %v", list, want)
		}
	}
}

// R7.

// Agendas that were made apart, and such as were copied, go on apart.
func TestAgendasDoNotTouchEachOther(t *testing.T) {
	dice := rand.New(rand.NewSource(143))
	first, m := made(t, some(dice, 20)...)
	agendas := []*agenda.Agenda{first, agenda.New(), agenda.New(), {}}
	models := []model{m, {}, {}, {}}
	for range 3 {
		other := *first
		agendas, models = append(agendas, &other), append(models, m.copied())
	}
	for range 3000 {
		i := dice.Intn(len(agendas))
		step(t, dice, agendas[i], models[i])
		for j, a := range agendas {
			check(t, a, models[j])
		}
	}
}

// What is asked is told the same each time, and changes nothing itself.
func TestAskedTwiceIsToldTwice(t *testing.T) {
	for _, size := range sizes {
		a, m := made(t, some(rand.New(rand.NewSource(144)), size)...)
		for range 3 {
			for _, kind := range kinds {
				for _, key := range keys {
					checkGet(t, a, m, both{kind, key})
				}
			}
			check(t, a, m)
		}
	}
}
