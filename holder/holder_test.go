package holder_test

import (
	"math"
	"math/rand"
	"reflect"
	"slices"
	"testing"

	"sublet/api"
	"sublet/holder"
)

func TestExamplesOfTheDocument(t *testing.T) {
	h, e := holder.New(100)
	if h == nil || e != api.OK {
		t.Fatalf("New = %v, %d", h, e)
	}
	l := api.Lease{From: 0, Id: 1, Path: "a", Mode: api.Exclusive, Stamp: []int{1}, Term: 30}
	if e := h.Add(20, 10, l); e != api.OK {
		t.Fatalf("Add = %d", e)
	}
	l.Sent, l.Expiry = 10, 34
	if got, e := h.Use(33, "a/b", api.Shared); e != api.OK || !same(got, l) {
		t.Errorf("Use(33) = %v, %d", got, e)
	}
	if got, e := h.Use(34, "a/b", api.Shared); e != api.ErrNoLease || !same(got, api.Lease{}) {
		t.Errorf("Use(34) = %v, %d", got, e)
	}
	if !h.Renewed(30, 25, 0, 1, []int{2}, 30) {
		t.Error("Renewed")
	}
	l.Sent, l.Expiry, l.Stamp = 25, 49, []int{2}
	if got, ok := h.Get(0, 1); !ok || !same(got, l) || holder.Due(got) != 37 {
		t.Errorf("Get = %v, %t", got, ok)
	}
	if e := h.Add(40, 10, api.Lease{From: 0, Id: 2, Path: "b", Mode: api.Shared, Stamp: []int{3}, Term: 30}); e != api.ErrNoLease {
		t.Errorf("Add of what is over = %d", e)
	}
	if !h.Recall(0, 1) {
		t.Error("Recall")
	}
	if got, e := h.Use(30, "a", api.Shared); e != api.ErrNoLease || !same(got, api.Lease{}) {
		t.Errorf("Use of what is recalled = %v, %d", got, e)
	}
	if h.Renewed(30, 25, 0, 1, []int{2}, 30) {
		t.Error("what is recalled is renewed")
	}
}

// Types.

// Of a nil Holder ErrNil is named, whatever else is wrong too.
func TestNilHolder(t *testing.T) {
	var h *holder.Holder
	for _, n := range numbers {
		for _, path := range []string{"", "a", "/"} {
			l := lease(n, n, path, api.Mode(n), n, n)
			if e := h.Add(n, n, l); e != api.ErrNil {
				t.Errorf("Add(%d, %d, %v) = %d", n, n, l, e)
			}
			if l, e := h.Use(n, path, api.Mode(n)); e != api.ErrNil || !same(l, api.Lease{}) {
				t.Errorf("Use(%d, %q, %d) = %v, %d", n, path, n, l, e)
			}
			if l, e := h.Use(n, path, shared); e != api.ErrNil || !same(l, api.Lease{}) {
				t.Errorf("Use(%d, %q, 1) = %v, %d", n, path, l, e)
			}
		}
		if h.Renewed(n, n, n, n, []int{n}, n) || h.Recall(n, n) || h.Drop(n, n) || h.Sweep(n) != 0 {
			t.Errorf("Renewed, Recall, Drop or Sweep of %d", n)
		}
		if l, ok := h.Get(n, n); ok || !same(l, api.Lease{}) {
			t.Errorf("Get(%d, %d) = %v, %t", n, n, l, ok)
		}
	}
	if e := h.Add(20, 10, lease(0, 1, "a", shared, 30, 1)); e != api.ErrNil {
		t.Errorf("Add = %d", e)
	}
	if h.Renewed(20, 10, 0, 1, []int{1}, 30) || h.Recall(0, 1) || h.Drop(0, 1) || h.Sweep(math.MaxInt) != 0 || len(h.List()) != 0 {
		t.Error("Renewed, Recall, Drop, Sweep or List")
	}
}

// A Holder that New didn't make has the rho 0, and no leases.
func TestZeroHolder(t *testing.T) {
	p := &pair{t: t, h: &holder.Holder{}, m: newModel(0)}
	p.check()
	p.sweep(5)
	p.drop(0, 1)
	p.recall(0, 1)
	p.renewed(5, 5, 0, 1, []int{1}, 9)
	p.use(5, "a", shared)
	p.must(5, 5, lease(0, 1, "a", shared, 9, 1))
	p.renewed(6, 6, 0, 1, []int{1}, 9)
	p.usesAll()
}

// P17.1.

func TestNewOfAnyRho(t *testing.T) {
	for _, rho := range append([]int{-1000, 500, 1001, 1<<32 + 5}, numbers...) {
		h, e := holder.New(rho)
		switch {
		case rho >= 0 && rho <= 999 && (h == nil || e != api.OK || len(h.List()) != 0):
			t.Errorf("New(%d) = %v, %d", rho, h, e)
		case (rho < 0 || rho > 999) && (h != nil || e != api.ErrRange):
			t.Errorf("New(%d) = %v, %d", rho, h, e)
		}
	}
}

// Each rho is kept, and all that is counted goes by it.
func TestEachRho(t *testing.T) {
	for rho := 0; rho <= mostRho; rho++ {
		p := started(t, rho)
		p.must(50, 50, lease(1, 1, "a", shared, mostTerm, 1))
		p.must(50, 50, lease(1, 2, "b", shared, 2100, 1))
		p.renewed(60, 51, 1, 2, []int{1}, 1<<19)
		if l, _ := p.get(1, 2); l.Expiry != 51+(1<<19)*(1000-rho)/(1000+rho) {
			t.Errorf("at rho %d: %v", rho, l)
		}
	}
}

// P17.2.

// Each edge of when it was asked for, and of what is now.
func TestAddOfAnySentAndNow(t *testing.T) {
	times := append([]int{10, 11, 100, mostTime - 11, mostTime - 10}, numbers...)
	count := map[api.Errno]int{}
	for _, now := range times {
		for _, sent := range append([]int{now - 1, now, max(now, now+1)}, times...) {
			p := started(t, 0)
			count[p.add(now, sent, lease(0, 1, "a", shared, 10, 1))]++
		}
	}
	if count[api.OK] < 30 || count[api.ErrRange] < 500 || count[api.ErrNoLease] < 100 {
		t.Errorf("so many of each error: %v", count)
	}
	p := started(t, 0)
	l := lease(0, 1, "a", shared, 10, 1)
	p.fails(api.ErrRange, 5, -1, l)
	p.fails(api.ErrRange, 5, 6, l)
	p.fails(api.ErrRange, -1, -1, l)
	p.fails(api.ErrRange, mostTime+1, mostTime, l)
	p.fails(api.ErrRange, mostTime+1, mostTime+1, l)
	p.must(0, 0, l)
	p.must(5, 0, lease(0, 2, "a", shared, 10, 1))
	p.must(9, 9, lease(0, 3, "a", shared, 10, 1))
	p.must(mostTime, mostTime, lease(0, 4, "a", shared, 10, 1))
}

// As long as may be, at the end of time.
func TestAddAtTheEndOfTime(t *testing.T) {
	p := started(t, 0)
	p.must(mostTime, mostTime, lease(0, 1, "a", shared, mostTerm, 1))
	if l, _ := p.get(0, 1); l.Expiry != mostTime+mostTerm || l.Sent != mostTime {
		t.Errorf("Get = %v", l)
	}
	p.usesAll()
}

func TestAddOfAnyFromAndId(t *testing.T) {
	for _, from := range append([]int{6}, numbers...) {
		for _, id := range numbers {
			p := started(t, 0)
			want := api.ErrRange
			if from >= 0 && from <= 7 && id >= 1 && id <= mostCount {
				want = api.OK
			}
			p.fails(want, 5, 5, lease(from, id, "a", shared, 10, 1))
		}
	}
}

func TestAddOfAnyPathAndMode(t *testing.T) {
	for _, path := range append(slices.Clone(goodPaths), badPaths...) {
		for _, mode := range append([]api.Mode{shared, exclusive}, badModes...) {
			p := started(t, 0)
			want := api.OK
			switch {
			case slices.Contains(badPaths, path):
				want = api.ErrPath
			case slices.Contains(badModes, mode):
				want = api.ErrMode
			}
			p.fails(want, 5, 5, lease(0, 1, path, mode, 10, 1))
			p.usesAll()
		}
	}
}

func TestAddOfAnyStampAndTerm(t *testing.T) {
	for _, stamp := range append(slices.Clone(goodStamps), badStamps...) {
		for _, term := range append(slices.Clone(goodTerms), badTerms...) {
			p := started(t, 0)
			want := api.OK
			switch {
			case !isStamp(stamp):
				want = api.ErrStamp
			case slices.Contains(badTerms, term):
				want = api.ErrTerm
			}
			p.fails(want, 5, 5, lease(0, 1, "a", shared, term, stamp...))
		}
	}
}

// Where it ends one below now, at now, and one above.
func TestAddOfWhatIsOverAlready(t *testing.T) {
	for _, rho := range rhos {
		for _, term := range goodTerms {
			end := 40 + shrunk(term, rho)
			for now := max(40, end-2); now <= end+2; now++ {
				p := started(t, rho)
				want := api.ErrNoLease
				if now < end {
					want = api.OK
				}
				p.fails(want, now, 40, lease(0, 1, "a", shared, term, 1))
			}
		}
	}
	// So little is left of it that it is never there.
	p := started(t, mostRho)
	p.fails(api.ErrNoLease, 0, 0, lease(0, 1, "a", shared, 1998, 1))
	p.must(0, 0, lease(0, 1, "a", shared, 1999, 1))
}

// filled: a holder with so many leases, of rho 0, of which the n-th ends at 101 + n.
func filled(t *testing.T, many int) *pair {
	t.Helper()
	p := started(t, 0)
	for i := range many {
		p.must(1, 1, lease(i%8, 1+i/2, "a/b", shared, 100+i, 1+i))
	}
	return p
}

// One of the same From and Id is there, whether it is in force, over or recalled;
// with another From, or another Id, it isn't the same.
func TestAddTwice(t *testing.T) {
	for _, recalled := range []bool{false, true} {
		for _, now := range []int{1, 50, 99, 100, 101, 102, 200, mostTime} {
			p := started(t, 0)
			p.must(1, 1, lease(2, 3, "a", shared, 100, 1))
			if recalled {
				p.recall(2, 3)
			}
			p.fails(api.ErrTwice, now, now, lease(2, 3, "b", exclusive, 50, 9))
			p.must(min(now, 100), min(now, 100), lease(3, 3, "b", exclusive, 50, 9))
			p.must(min(now, 100), min(now, 100), lease(2, 2, "b", exclusive, 50, 9))
			p.must(min(now, 100), min(now, 100), lease(3, 2, "b", exclusive, 50, 9))
			p.drop(2, 3)
			p.must(now, now, lease(2, 3, "b", exclusive, 50, 9))
		}
	}
}

// Eight that aren't over are as many as there may be, recalled ones too.
func TestAddUntilItIsFull(t *testing.T) {
	for many := range mostLeases + 1 {
		for recalled := range 3 {
			p := filled(t, many)
			for i, l := range p.m.list() {
				if recalled > 0 && i%recalled == 0 {
					p.recall(l.From, l.Id)
				}
			}
			want := api.OK
			if many == mostLeases {
				want = api.ErrFull
			}
			p.fails(want, 100, 100, lease(7, 99, "c", shared, 50, 1))
			if many < mostLeases {
				continue
			}
			l := p.m.list()[many/2]
			p.drop(l.From, l.Id)
			p.must(100, 100, lease(7, 99, "c", shared, 50, 1))
			p.fails(api.ErrFull, 100, 100, lease(7, 999, "c", shared, 50, 1))
		}
	}
}

// Of eight some are over, and just those go, when there comes one more.
func TestAddDropsWhatIsOver(t *testing.T) {
	for many := range mostLeases + 1 {
		for now := 99; now <= 111; now++ {
			p := filled(t, many)
			for i, l := range p.m.list() {
				if i%3 == 0 {
					p.recall(l.From, l.Id)
				}
			}
			left := 0
			for i := range many {
				if 101+i > now {
					left++
				}
			}
			if left == mostLeases {
				p.fails(api.ErrFull, now, now, lease(7, 99, "c", shared, 50, 1))
				continue
			}
			p.must(now, now, lease(7, 99, "c", shared, 50, 1))
			if l := p.h.List(); len(l) != left+1 {
				t.Errorf("at %d %d of %d are left: %v", now, len(l), many, l)
			}
		}
	}
}

// A renewed lease is over only behind its new end, and stays till then.
func TestAddDropsByTheRenewedEnd(t *testing.T) {
	p := filled(t, mostLeases)
	p.renewed(50, 50, 0, 1, []int{1}, 100)
	p.fails(api.ErrFull, 101, 101, lease(7, 99, "c", shared, 50, 1))
	p.must(102, 102, lease(7, 99, "c", shared, 50, 1))
	if _, ok := p.get(0, 1); !ok {
		t.Error("the renewed one went")
	}
	p.must(149, 149, lease(7, 98, "c", shared, 50, 1))
	if _, ok := p.get(0, 1); !ok {
		t.Error("the renewed one went")
	}
	p.must(150, 150, lease(7, 97, "c", shared, 50, 1))
	if _, ok := p.get(0, 1); ok {
		t.Error("the renewed one stayed")
	}
}

// Whatever Sent, Expiry and Recalled say in what is handed in.
func TestWhatIsKeptOfALease(t *testing.T) {
	for _, n := range numbers {
		for _, recalled := range []bool{false, true} {
			p := started(t, 100)
			l := api.Lease{From: 6, Id: 77, Path: "a/b", Mode: exclusive, Stamp: []int{3, 4}, Term: 50, Sent: n, Expiry: n, Recalled: recalled}
			p.must(30, 20, l)
			want := api.Lease{From: 6, Id: 77, Path: "a/b", Mode: exclusive, Stamp: []int{3, 4}, Term: 50, Sent: 20, Expiry: 60}
			if got, ok := p.h.Get(6, 77); !ok || !same(got, want) {
				t.Errorf("of %v it keeps %v", l, got)
			}
			if got, e := p.use(30, "a/b/c", exclusive); e != api.OK || !same(got, want) {
				t.Errorf("Use = %v, %d", got, e)
			}
		}
	}
}

// Several errors at once, in each combination: the one named first is answered.
func TestAddWithSeveralErrors(t *testing.T) {
	type fault struct {
		e    api.Errno
		make func(now, sent *int, l *api.Lease)
	}
	faults := []fault{
		{api.ErrRange, func(now, sent *int, l *api.Lease) { *now = mostTime + 1 }},
		{api.ErrRange, func(now, sent *int, l *api.Lease) { *sent = -1 }},
		{api.ErrRange, func(now, sent *int, l *api.Lease) { l.From = 8 }},
		{api.ErrPath, func(now, sent *int, l *api.Lease) { l.Path = "a/" }},
		{api.ErrMode, func(now, sent *int, l *api.Lease) { l.Mode = 3 }},
		{api.ErrStamp, func(now, sent *int, l *api.Lease) { l.Stamp = nil }},
		{api.ErrTerm, func(now, sent *int, l *api.Lease) { l.Term = mostTerm + 1 }},
		{api.ErrTwice, func(now, sent *int, l *api.Lease) { l.From, l.Id = max(l.From, 1), 1 }},
		{api.ErrNoLease, func(now, sent *int, l *api.Lease) { *sent = min(*sent, 50) }},
	}
	for bits := range 1 << len(faults) {
		for many := range mostLeases + 1 {
			p, want := filled(t, many), api.OK
			now, sent, l := 100, 100, lease(0, 99, "c", shared, 50, 1)
			for i, f := range faults {
				// What is there twice has to be there: of From 1 and Id 1.
				if bits>>i&1 == 0 || f.e == api.ErrTwice && many < 2 {
					continue
				}
				f.make(&now, &sent, &l)
				if want == api.OK {
					want = f.e
				}
			}
			if want == api.OK && many == mostLeases {
				want = api.ErrFull
			}
			p.fails(want, now, sent, l)
		}
	}
}

// P17.3.

func TestRenewedOfAnySentAndNow(t *testing.T) {
	times := append([]int{10, 11, 25, 34, 35, 100}, numbers...)
	for _, now := range times {
		for _, sent := range append([]int{now - 1, now, max(now, now+1)}, times...) {
			p := filled(t, 3)
			want := sent >= 0 && sent <= now && now <= mostTime
			if p.renewed(now, sent, 1, 1, []int{4}, 30) != want {
				t.Errorf("Renewed(%d, %d) isn't %t", now, sent, want)
			}
		}
	}
	p := filled(t, 1)
	for _, c := range []struct {
		now, sent int
		want      bool
	}{{5, -1, false}, {5, 0, true}, {5, 5, true}, {5, 6, false}, {-1, -1, false}, {mostTime, mostTime, true}, {mostTime + 1, mostTime, false}, {mostTime + 1, mostTime + 1, false}} {
		if p.renewed(c.now, c.sent, 0, 1, []int{2}, mostTerm) != c.want {
			t.Errorf("Renewed(%d, %d) isn't %t", c.now, c.sent, c.want)
		}
	}
	if l, _ := p.get(0, 1); l.Expiry != mostTime+mostTerm {
		t.Errorf("Get = %v", l)
	}
}

func TestRenewedOfAnyFromAndId(t *testing.T) {
	for _, from := range numbers {
		for _, id := range numbers {
			p := filled(t, 4)
			_, want := p.get(from, id)
			if p.renewed(20, 20, from, id, []int{4}, 300) != want {
				t.Errorf("Renewed(20, 20, %d, %d) isn't %t", from, id, want)
			}
		}
	}
	// From and Id are told apart.
	p := started(t, 0)
	p.must(1, 1, lease(2, 3, "a", shared, 100, 1))
	p.must(1, 1, lease(3, 2, "b", shared, 100, 1))
	p.renewed(20, 20, 3, 2, []int{4}, 300)
	if l, _ := p.get(2, 3); l.Expiry != 101 {
		t.Errorf("the other one was renewed: %v", l)
	}
}

func TestRenewedOfAnyStampAndTerm(t *testing.T) {
	for _, stamp := range append(slices.Clone(goodStamps), badStamps...) {
		for _, term := range append(slices.Clone(goodTerms), badTerms...) {
			p := filled(t, 2)
			want := isStamp(stamp) && !slices.Contains(badTerms, term)
			if p.renewed(20, 20, 1, 1, stamp, term) != want {
				t.Errorf("Renewed of %v, %d isn't %t", stamp, term, want)
			}
		}
	}
}

// Of a lease asked for at 100, till 140, with the stamp 5 1: whatever is greater
// stands, the Expiry, the Sent and the Stamp each by itself, and the Term.
func TestRenewedTakesTheGreater(t *testing.T) {
	for _, c := range []struct {
		sent, term         int
		wantSent, wantEnds int
	}{
		{100, 40, 100, 140}, {100, 41, 100, 141}, {100, 39, 100, 140},
		{99, 40, 100, 140}, {99, 41, 100, 140}, {99, 42, 100, 141}, {0, 40, 100, 140}, {0, mostTerm, 100, mostTerm},
		{101, 40, 101, 141}, {101, 39, 101, 140}, {101, 38, 101, 140}, {110, 4, 110, 140}, {150, 4, 150, 154}, {160, 4, 160, 164},
	} {
		for _, s := range []struct{ stamp, want []int }{
			{[]int{5, 1}, []int{5, 1}}, {[]int{5, 2}, []int{5, 2}}, {[]int{5}, []int{5, 1}}, {[]int{5, 1, 1}, []int{5, 1, 1}},
			{[]int{4, 9}, []int{5, 1}}, {[]int{6}, []int{6}}, {[]int{10}, []int{10}}, {[]int{1, 1, 1, 1}, []int{5, 1}},
		} {
			p := started(t, 0)
			p.must(100, 100, lease(3, 9, "a", exclusive, 40, 5, 1))
			p.must(100, 100, lease(3, 8, "a", exclusive, 40, 5, 1))
			if !p.renewed(160, c.sent, 3, 9, s.stamp, c.term) {
				t.Fatalf("Renewed of %v", c)
			}
			want := api.Lease{From: 3, Id: 9, Path: "a", Mode: exclusive, Stamp: s.want, Term: c.term, Sent: c.wantSent, Expiry: c.wantEnds}
			if l, _ := p.h.Get(3, 9); !same(l, want) {
				t.Errorf("renewed by %v, %v it is %v", c, s.stamp, l)
			}
		}
	}
}

// A renewal counts shorter too, by the holder's rho.
func TestRenewedIsCountedShort(t *testing.T) {
	for _, rho := range rhos {
		for _, term := range goodTerms {
			p := started(t, rho)
			p.must(10, 10, lease(0, 1, "a", shared, 5000, 1))
			p.renewed(3000, 2000, 0, 1, []int{1}, term)
			if l, _ := p.h.Get(0, 1); l.Expiry != max(10+shrunk(5000, rho), 2000+shrunk(term, rho)) {
				t.Errorf("rho %d, term %d: %v", rho, term, l)
			}
			p.usesAll()
		}
	}
}

// A lease that is over, and hasn't gone yet, may be renewed, also by what is over.
func TestRenewedOfWhatIsOver(t *testing.T) {
	p := filled(t, 2)
	if !p.renewed(500, 450, 0, 1, []int{3}, 20) || !p.renewed(500, 499, 1, 1, []int{3}, 20) {
		t.Error("Renewed")
	}
	p.use(500, "a/b", shared)
	if l, _ := p.get(0, 1); l.Expiry != 470 {
		t.Errorf("Get = %v", l)
	}
	if p.sweep(500) != 1 || p.renewed(500, 499, 0, 1, []int{3}, 20) {
		t.Error("it hasn't gone")
	}
}

func TestNoRecalledLeaseIsRenewed(t *testing.T) {
	p := filled(t, 3)
	p.recall(1, 1)
	for _, sent := range []int{0, 1, 50, 60} {
		for _, stamp := range goodStamps {
			for _, term := range goodTerms {
				if p.renewed(60, sent, 1, 1, stamp, term) {
					t.Fatalf("Renewed(60, %d, 1, 1, %v, %d)", sent, stamp, term)
				}
			}
		}
	}
	// The others are.
	if !p.renewed(60, 50, 0, 1, []int{2}, 99) || !p.renewed(60, 50, 2, 2, []int{2}, 99) {
		t.Error("another one isn't renewed")
	}
}

// P17.4.

func TestRecallTwice(t *testing.T) {
	p := filled(t, 4)
	for _, g := range []grant{{0, 1}, {3, 2}} {
		if !p.recall(g.from, g.id) || p.recall(g.from, g.id) || p.recall(g.from, g.id) {
			t.Errorf("Recall of %v", g)
		}
		if l, ok := p.h.Get(g.from, g.id); !ok || !l.Recalled {
			t.Errorf("Get = %v, %t", l, ok)
		}
	}
	if p.recall(1, 3) || p.recall(4, 1) || p.recall(1, 0) {
		t.Error("Recall of what isn't there")
	}
	// It is recalled, over or not.
	p.use(1000, "a", shared)
	if !p.recall(1, 1) || p.sweep(1000) != 4 || p.recall(1, 1) || p.recall(2, 2) {
		t.Error("Recall of what is over")
	}
}

func TestDropTwice(t *testing.T) {
	p := filled(t, 4)
	p.recall(2, 2)
	for _, g := range []grant{{0, 1}, {2, 2}, {1, 1}, {3, 2}} {
		if !p.drop(g.from, g.id) || p.drop(g.from, g.id) || p.drop(g.from, g.id) {
			t.Errorf("Drop of %v", g)
		}
		if p.recall(g.from, g.id) || p.renewed(5, 5, g.from, g.id, []int{9}, 30) {
			t.Errorf("%v is there", g)
		}
	}
	if len(p.h.List()) != 0 || p.sweep(mostTime) != 0 {
		t.Errorf("List = %v", p.h.List())
	}
	// What was dropped, recalled or not, may come again, and isn't recalled then.
	p.must(5, 5, lease(2, 2, "a", shared, 30, 1))
	if _, e := p.use(5, "a", shared); e != api.OK {
		t.Errorf("Use = %d", e)
	}
}

// From and Id are told apart, of any numbers.
func TestGetAndDropAndRecallOfAnyNumbers(t *testing.T) {
	p := started(t, 0)
	p.must(1, 1, lease(2, 3, "a", shared, 100, 1))
	p.must(1, 1, lease(3, 2, "b", shared, 100, 1))
	p.must(1, 1, lease(7, mostCount, "c", shared, 100, 1))
	p.must(1, 1, lease(0, 1, "d", shared, 100, 1))
	ids := []int{math.MinInt, -1, 0, 1, 2, 3, 1<<32 + 2, mostCount, mostCount + 1, math.MaxInt}
	for _, from := range []int{math.MinInt, -1, 0, 1, 2, 3, 7, 8, 1<<32 + 3, math.MaxInt} {
		for _, id := range ids {
			_, there := p.get(from, id)
			if want := slices.Contains([]grant{{2, 3}, {3, 2}, {7, mostCount}, {0, 1}}, grant{from, id}); there != want {
				t.Errorf("Get(%d, %d) isn't %t", from, id, want)
			}
			if p.recall(from, id) != there || p.drop(from, id) != there {
				t.Errorf("Recall or Drop(%d, %d) isn't %t", from, id, there)
			}
		}
	}
}

// At a now one below, at and one above each Expiry; twice.
func TestSweepAtEachExpiry(t *testing.T) {
	for now := 98; now <= 111; now++ {
		p := filled(t, mostLeases)
		p.recall(0, 1)
		p.recall(7, 4)
		want := min(max(now-100, 0), mostLeases)
		if n := p.sweep(now); n != want {
			t.Errorf("Sweep(%d) = %d, not %d", now, n, want)
		}
		if n := p.sweep(now); n != 0 || len(p.h.List()) != mostLeases-want {
			t.Errorf("Sweep(%d) = %d, the second time", now, n)
		}
	}
	p := filled(t, mostLeases)
	for _, now := range []int{math.MinInt, -1, 0, 100} {
		if n := p.sweep(now); n != 0 {
			t.Errorf("Sweep(%d) = %d", now, n)
		}
	}
	if n := p.sweep(math.MaxInt); n != mostLeases || p.sweep(math.MaxInt) != 0 {
		t.Errorf("Sweep = %d", n)
	}
}

// In whichever order they came: by From, and those of one From by Id, as numbers.
func TestListInOrder(t *testing.T) {
	all := []grant{{0, 2}, {0, 10}, {1, 1}, {1, 9}, {1, 1 << 32}, {1, mostCount}, {7, 1}, {7, 2}}
	dice := rand.New(rand.NewSource(173))
	for range 200 {
		p := started(t, 0)
		for _, i := range dice.Perm(len(all)) {
			p.must(1, 1, lease(all[i].from, all[i].id, "a", shared, 10+dice.Intn(9), 1+dice.Intn(9)))
		}
		for range 5 {
			g := all[dice.Intn(len(all))]
			p.renewed(5, 5, g.from, g.id, []int{4}, 30)
			p.recall(g.from, g.id)
		}
		for i, l := range p.h.List() {
			if of(l) != all[i] {
				t.Fatalf("at %d stands %v", i, l)
			}
		}
		g := all[dice.Intn(len(all))]
		p.drop(g.from, g.id)
		if l := p.h.List(); len(l) != mostLeases-1 {
			t.Fatalf("List = %v", l)
		}
	}
}

// P17.5.

func TestUseOfAnyPathAndMode(t *testing.T) {
	p := started(t, 0)
	for i, path := range []string{"a/b", "ab", "b", "a/b/c/d"} {
		p.must(1, 1, lease(i, 1, path, api.Mode(1+i%2), 100, 1))
	}
	for _, path := range append(slices.Clone(goodPaths), badPaths...) {
		for _, mode := range append([]api.Mode{shared, exclusive}, badModes...) {
			l, e := p.use(5, path, mode)
			want := api.OK
			switch {
			case slices.Contains(badPaths, path):
				want = api.ErrPath
			case slices.Contains(badModes, mode):
				want = api.ErrMode
			case len(l.Stamp) == 0:
				want = api.ErrNoLease
			}
			if e != want {
				t.Errorf("Use(5, %.40q, %d) = %v, %d, not %d", path, mode, l, e, want)
			}
		}
	}
	for _, c := range []struct {
		path string
		mode api.Mode
		from int
	}{{"a/b", shared, 0}, {"a/b", exclusive, -1}, {"a/b/c", shared, 0}, {"a", shared, -1}, {"", shared, -1}, {"ab", exclusive, 1}, {"ab/c", shared, 1}, {"abc", shared, -1}, {"b", shared, 2}, {"b", exclusive, -1}, {"a/b/c/d", exclusive, 3}, {"a/b/c/e", exclusive, -1}} {
		l, e := p.h.Use(5, c.path, c.mode)
		if c.from < 0 && e != api.ErrNoLease || c.from >= 0 && (e != api.OK || l.From != c.from) {
			t.Errorf("Use(5, %q, %d) = %v, %d", c.path, c.mode, l, e)
		}
	}
}

// Both are wrong: the path is named first. And without a lease too.
func TestUseWithSeveralErrors(t *testing.T) {
	for _, p := range []*pair{started(t, 0), filled(t, 3)} {
		for _, now := range []int{-1, 5, 1000, mostTime + 1} {
			if _, e := p.use(now, "/", 3); e != api.ErrPath {
				t.Errorf("Use(%d, /, 3) = %d", now, e)
			}
			if _, e := p.use(now, "c", 3); e != api.ErrMode {
				t.Errorf("Use(%d, c, 3) = %d", now, e)
			}
			if _, e := p.use(now, "c", shared); e != api.ErrNoLease {
				t.Errorf("Use(%d, c, 1) = %d", now, e)
			}
		}
	}
}

// Any now may be asked for: a lease bears till it is over.
func TestUseAtAnyNow(t *testing.T) {
	p := started(t, 0)
	p.must(40, 40, lease(3, 4, "a", exclusive, 60, 1))
	for _, now := range append([]int{39, 40, 98, 99, 100, 101}, numbers...) {
		l, e := p.use(now, "a", exclusive)
		if now < 100 && (e != api.OK || l.Id != 4) || now >= 100 && e != api.ErrNoLease {
			t.Errorf("Use(%d) = %v, %d", now, l, e)
		}
	}
	// What was asked for, at whatever now, stays.
	if l := p.h.List(); len(l) != 1 {
		t.Errorf("List = %v", l)
	}
}

// Each key decides where all those ahead of it are alike, though all those behind
// it say otherwise; whichever came first.
func TestWhatUsePrefersAtEachKey(t *testing.T) {
	of := func(from, id, term int, stamp ...int) api.Lease { return lease(from, id, "a", shared, term, stamp...) }
	for _, c := range []struct{ better, worse api.Lease }{
		{of(6, 9, 51, 1), of(2, 3, 50, 5)},
		{of(2, 3, 51, 5), of(6, 9, 50, 1)},
		{of(6, 9, 50, 6), of(2, 3, 50, 5)},
		{of(6, 9, 50, 10), of(2, 3, 50, 9)},
		{of(6, 9, 50, 5, 1), of(2, 3, 50, 5)},
		{of(6, 9, 50, 6), of(2, 3, 50, 5, 9)},
		{of(6, 9, 50, 5, 2, 1), of(2, 3, 50, 5, 1, 2)},
		{of(6, 9, 50, 1, 1, 1, 2), of(2, 3, 50, 1, 1, 1, 1)},
		{of(2, 9, 50, 5), of(6, 3, 50, 5)},
		{of(0, 10, 50, 5), of(7, 9, 50, 5)},
		{of(2, 3, 50, 5), of(2, 9, 50, 5)},
		{of(2, 9, 50, 5), of(2, 10, 50, 5)},
		{of(2, 9, 50, 5), of(2, mostCount, 50, 5)},
	} {
		for i := range 2 {
			p := started(t, 0)
			both := []api.Lease{c.better, c.worse}
			p.must(10, 10, both[i])
			p.must(10, 10, both[1-i])
			if l, e := p.h.Use(20, "a/b", shared); e != api.OK || l.Id != c.better.Id || l.From != c.better.From {
				t.Errorf("of %v and %v it is %v, %d", c.better, c.worse, l, e)
			}
			// The better one doesn't bear it: the other one does.
			p.recall(c.better.From, c.better.Id)
			if l, e := p.use(20, "a/b", shared); e != api.OK || l.Id != c.worse.Id || l.From != c.worse.From {
				t.Errorf("without %v it is %v, %d", c.better, l, e)
			}
			p.recall(c.worse.From, c.worse.Id)
			p.use(20, "a/b", shared)
		}
	}
}

// The Expiry decides, not the Term nor the Sent.
func TestUsePrefersByExpiryAlone(t *testing.T) {
	p := started(t, 0)
	p.must(20, 0, lease(0, 1, "a", shared, 90, 9))
	p.must(20, 20, lease(1, 1, "a", shared, 80, 1))
	if l, e := p.use(20, "a", shared); e != api.OK || l.From != 1 {
		t.Errorf("Use = %v, %d", l, e)
	}
	// Of one that is renewed the new one.
	p.renewed(30, 30, 0, 1, []int{1}, 71)
	if l, e := p.use(30, "a", shared); e != api.OK || l.From != 0 {
		t.Errorf("Use = %v, %d", l, e)
	}
	// And of that one the later stamp.
	p.renewed(30, 30, 1, 1, []int{10}, 71)
	if l, e := p.use(30, "a", shared); e != api.OK || l.From != 1 {
		t.Errorf("Use = %v, %d", l, e)
	}
}

// What doesn't bear is never preferred, whatever its Expiry.
func TestUsePassesOverWhatDoesNotBear(t *testing.T) {
	for i, long := range []api.Lease{
		lease(0, 1, "a/c", exclusive, 900, 9), lease(0, 1, "a/b/c", exclusive, 900, 9), lease(0, 1, "b", exclusive, 900, 9), lease(0, 1, "a", shared, 900, 9),
	} {
		p := started(t, 0)
		p.must(5, 5, long)
		if _, e := p.use(5, "a/b", exclusive); e != api.ErrNoLease {
			t.Errorf("%d: Use = %d", i, e)
		}
		p.must(5, 5, lease(1, 1, "a", exclusive, 9, 1))
		if l, e := p.use(5, "a/b", exclusive); e != api.OK || l.From != 1 {
			t.Errorf("%d: Use = %v, %d", i, l, e)
		}
	}
}

// Of eight leases that differ in few keys, in each order in which they come.
func TestUseOfManyLeases(t *testing.T) {
	dice := rand.New(rand.NewSource(174))
	for range 400 {
		p := started(t, 0)
		for i := range mostLeases {
			l := lease(dice.Intn(3), 1+dice.Intn(20)*8+i, goodPaths[dice.Intn(4)], api.Mode(1+dice.Intn(2)), 50+dice.Intn(2), 1+dice.Intn(2))
			if dice.Intn(2) == 0 {
				l.Stamp = append(l.Stamp, 1+dice.Intn(2))
			}
			p.must(10, 9+dice.Intn(2), l)
			if dice.Intn(6) == 0 {
				p.recall(l.From, l.Id)
			}
		}
		p.usesAll()
	}
}

// P17.6.

func TestDue(t *testing.T) {
	for _, c := range []struct{ sent, expiry, want int }{
		{25, 49, 37}, {0, 0, 0}, {5, 5, 5}, {5, 6, 5}, {5, 7, 6}, {5, 8, 6}, {0, 1, 0}, {0, 3, 1}, {1, 0, 0}, {6, 5, 0},
		{-1, 5, 0}, {-1, -1, 0}, {-2, 2, 0}, {0, -1, 0}, {-5, -3, 0},
		{0, forever, 1 << 61}, {forever, forever, forever}, {forever - 1, forever, forever - 1}, {forever - 2, forever, forever - 1},
		{0, forever + 1, 0}, {forever, forever + 1, 0}, {forever + 1, forever + 1, 0}, {forever + 1, forever, 0}, {0, math.MaxInt, 0}, {math.MaxInt, math.MaxInt, 0},
		{math.MinInt, 0, 0}, {math.MinInt, math.MaxInt, 0}, {math.MinInt, math.MinInt, 0}, {math.MaxInt, math.MinInt, 0},
		{mostTime, mostTime + mostTerm, mostTime + mostTerm/2},
	} {
		if n := holder.Due(api.Lease{Sent: c.sent, Expiry: c.expiry}); n != c.want {
			t.Errorf("Due of %d to %d = %d, not %d", c.sent, c.expiry, n, c.want)
		}
	}
}

// Sent and Expiry alone count; and half of what is between is never beyond it.
func TestDueOfAnyLease(t *testing.T) {
	for _, sent := range numbers {
		for _, expiry := range numbers {
			want := 0
			if sent >= 0 && sent <= expiry && expiry <= forever {
				// The sum of two such numbers is more than an int holds.
				want = int((uint64(sent) + uint64(expiry)) / 2)
			}
			for _, l := range []api.Lease{
				{Sent: sent, Expiry: expiry},
				{From: -1, Id: -1, Path: "/", Mode: 3, Stamp: []int{0}, Term: sent, Sent: sent, Expiry: expiry, Recalled: true},
				lease(0, 1, "a", shared, 30, 1),
			} {
				l.Sent, l.Expiry = sent, expiry
				if n := holder.Due(l); n != want {
					t.Errorf("Due(%v) = %d, not %d", l, n, want)
				}
			}
		}
	}
}

// P17.7.

// Whatever is called, with whatever times, though they go back: what Use answers is
// counted short each time (see checkShort), and no recalled one is answered again.
func TestCountedShort(t *testing.T) {
	dice := rand.New(rand.NewSource(175))
	for _, rho := range rhos[:6] {
		for _, from := range []int{0, 1 << 40, mostTime - 60} {
			most, uses := 0, 0
			for range 8 {
				p := started(t, rho)
				for range 300 {
					p.step(dice, from+dice.Intn(60))
					most = max(most, len(p.h.List()))
				}
				p.usesAll()
				for _, l := range p.m.list() {
					if _, e := p.use(from, l.Path, shared); e == api.OK {
						uses++
					}
				}
			}
			if most < mostLeases-1 || uses == 0 {
				t.Errorf("rho %d: there were %d leases at most, and %d uses", rho, most, uses)
			}
		}
	}
}

// As time goes on, too.
func TestCountedShortAsTimeGoesOn(t *testing.T) {
	dice := rand.New(rand.NewSource(176))
	for _, rho := range rhos[:6] {
		for range 20 {
			p, now := started(t, rho), 0
			for range 200 {
				now += dice.Intn(3)
				p.step(dice, now)
				p.sweep(now)
			}
		}
	}
}

// A recalled lease is never answered again, whatever renews it, and at no time.
func TestRecalledIsNeverAnswered(t *testing.T) {
	dice := rand.New(rand.NewSource(177))
	p := started(t, 0)
	p.must(10, 10, lease(0, 1, "a", exclusive, mostTerm, 9))
	p.recall(0, 1)
	for i := range 500 {
		p.renewed(20+i, dice.Intn(20+i), 0, 1, []int{10 + i}, mostTerm)
		p.recall(0, 1)
		p.add(20+i, 20+i, lease(0, 1, "a", exclusive, mostTerm, 9))
		for _, now := range []int{math.MinInt, -1, 0, 10, 20 + i} {
			if l, e := p.use(now, "a", shared); e != api.ErrNoLease {
				t.Fatalf("Use(%d) = %v, %d", now, l, e)
			}
		}
	}
	if l, ok := p.get(0, 1); !ok || !l.Recalled || !reflect.DeepEqual(l.Stamp, []int{9}) {
		t.Errorf("Get = %v, %t", l, ok)
	}
}
