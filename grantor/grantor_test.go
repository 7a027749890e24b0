package grantor_test

import (
	mathbits "math/bits"
	"math/rand"
	"reflect"
	"slices"
	"testing"

	"sublet/api"
	"sublet/book"
	"sublet/grantor"
	"sublet/ledger"
)

func TestExamplesOfTheDocument(t *testing.T) {
	p := started(t)
	if q := p.g.Quarantine(); q != 0 {
		t.Errorf("Quarantine = %d", q)
	}
	x := p.must(p.grant(10, grantor.Root(), 1, "a", exclusive, 100))
	if !sameGrant(x, api.Grant{Id: 1, Holder: 1, Path: "a", Mode: exclusive, Stamp: []int{1}, Term: 100}) {
		t.Errorf("Grant = %v", x)
	}
	if h, _ := p.g.Held(1); h.Expiry != 110 {
		t.Errorf("the expiry: %d", h.Expiry)
	}
	p.fails(api.ErrHeld)(p.grant(20, grantor.Root(), 2, "a/b", shared, 50))
	if x := p.must(p.grant(20, grantor.Root(), 1, "a/b", shared, 50)); x.Id != 2 {
		t.Errorf("for holder 1: %v", x)
	}
	p.fails(api.ErrOutlast)(p.grant(20, lease("a", exclusive, 71), 1, "a", shared, 50))
	x = p.must(p.renew(50, grantor.Root(), 1, 1, 30, true))
	if h, _ := p.g.Held(1); !slices.Equal(x.Stamp, []int{3}) || h.Expiry != 110 || x.Term != 100 {
		t.Errorf("Renew = %v, till %d", x, h.Expiry)
	}
	if !p.g.Blocks(50, "a/c", shared) || p.g.Blocks(110, "a/c", shared) {
		t.Error("Blocks")
	}
	before := len(written(t, p.d))
	p.must(p.grant(110, grantor.Root(), 2, "a", exclusive, 10))
	wantRecords(t, written(t, p.d)[before:], end(1), end(2), granted(4, 2, "a", exclusive, 10))
	p.again(115)
	if q := p.g.Quarantine(); q != 215 {
		t.Errorf("Quarantine = %d", q)
	}
	p.fails(api.ErrQuarantine)(p.grant(200, grantor.Root(), 3, "c", shared, 10))
}

// wantRecords: just these, in this order.
func wantRecords(t *testing.T, got []api.Rec, want ...api.Rec) {
	t.Helper()
	if len(got) != len(want) {
		t.Fatalf("%d records, %v, not %v", len(got), got, want)
	}
	for i, r := range got {
		if !reflect.DeepEqual(r, want[i]) {
			t.Errorf("record %d is %v, not %v", i, r, want[i])
		}
	}
}

// Words: a nil *Grantor.

// wantNone: a grantor that is none tells this of all calls.
func wantNone(t *testing.T, g *grantor.Grantor) {
	t.Helper()
	for _, n := range numbers {
		for _, own := range []api.Lease{{}, root} {
			for _, path := range []string{"", "a", "/"} {
				if x, e := g.Grant(n, own, n, path, api.Mode(n), n); e != api.ErrNil || !reflect.ValueOf(x).IsZero() {
					t.Errorf("Grant of %d: %v, %d", n, x, e)
				}
				if g.Blocks(n, path, api.Mode(n)) || len(g.Under(n, path)) != 0 {
					t.Errorf("Blocks, Under of %d", n)
				}
			}
			if x, e := g.Renew(n, own, n, n, n, true); e != api.ErrNil || !reflect.ValueOf(x).IsZero() {
				t.Errorf("Renew of %d: %v, %d", n, x, e)
			}
		}
		if ok, e := g.End(n, n); ok || e != api.ErrNil {
			t.Errorf("End of %d: %t, %d", n, ok, e)
		}
		if ok, e := g.Done(n, n, n, n); ok || e != api.ErrNil {
			t.Errorf("Done of %d: %t, %d", n, ok, e)
		}
		if g.Mark(n, 0, 1) || g.Mark(n, n, n) {
			t.Errorf("Mark of %d", n)
		}
		if h, ok := g.Held(n); ok || !reflect.ValueOf(h).IsZero() {
			t.Errorf("Held(%d) = %v, %t", n, h, ok)
		}
	}
	if x, e := g.Grant(10, root, 1, "a", shared, 9); e != api.ErrNil || !reflect.ValueOf(x).IsZero() {
		t.Errorf("Grant: %v, %d", x, e)
	}
	if x, e := g.Renew(10, root, 1, 1, 9, false); e != api.ErrNil || !reflect.ValueOf(x).IsZero() {
		t.Errorf("Renew: %v, %d", x, e)
	}
	if len(g.List()) != 0 || g.Quarantine() != 0 {
		t.Errorf("List %v, Quarantine %d", g.List(), g.Quarantine())
	}
}

func TestNilGrantor(t *testing.T) { wantNone(t, nil) }

// A grantor that Open didn't make has no ledger, so it is none.
func TestZeroGrantor(t *testing.T) { wantNone(t, &grantor.Grantor{}) }

// P16.1.

func TestRoot(t *testing.T) {
	if l := grantor.Root(); !reflect.DeepEqual(l, root) {
		t.Errorf("Root = %v", l)
	}
	for _, path := range goodPaths {
		for _, mode := range []api.Mode{shared, exclusive} {
			for _, now := range append(slices.Clone(goodTimes), -1, forever-1) {
				if !grantor.Bears(grantor.Root(), now, path, mode) {
					t.Errorf("the root doesn't bear %q, %d at %d", path, mode, now)
				}
			}
			if grantor.Bears(grantor.Root(), forever, path, mode) {
				t.Errorf("the root bears %q at its Expiry", path)
			}
		}
	}
}

// wantBears: what Bears tells is what the Words say.
func wantBears(t *testing.T, l api.Lease, now int, path string, mode api.Mode) bool {
	t.Helper()
	want := bears(l, now, path, mode)
	if got := grantor.Bears(l, now, path, mode); got != want {
		t.Fatalf("Bears(%v, %d, %.40q, %d) = %t", l, now, path, mode, got)
	}
	return want
}

func TestBearsOfEachCondition(t *testing.T) {
	good := lease("a", exclusive, 100, 3, 1)
	if !wantBears(t, good, 99, "a/b", exclusive) {
		t.Fatal("it bears nothing")
	}
	change := func(change func(l *api.Lease)) api.Lease {
		l := good
		change(&l)
		return l
	}
	for i, l := range []api.Lease{
		change(func(l *api.Lease) { l.Recalled = true }),
		change(func(l *api.Lease) { l.Expiry = 99 }),
		change(func(l *api.Lease) { l.Path = "a/b/c" }),
		change(func(l *api.Lease) { l.Path = "/" }),
		change(func(l *api.Lease) { l.Mode = shared }),
		change(func(l *api.Lease) { l.Mode = 3 }),
		change(func(l *api.Lease) { l.Stamp = []int{3, 0} }),
		{},
	} {
		if wantBears(t, l, 99, "a/b", exclusive) {
			t.Errorf("%d: %v bears it", i, l)
		}
	}
}

func TestBearsAtEachExpiry(t *testing.T) {
	for _, expiry := range numbers {
		for _, now := range numbers {
			for _, mode := range []api.Mode{shared, exclusive} {
				wantBears(t, lease("a", exclusive, expiry, 1), now, "a", mode)
			}
		}
	}
}

func TestBearsOfEachPathAndMode(t *testing.T) {
	count := 0
	all := append(slices.Clone(goodPaths), badPaths...)
	for _, p := range all {
		for _, q := range all {
			for _, m := range append([]api.Mode{1, 2}, badModes...) {
				for _, n := range append([]api.Mode{1, 2}, badModes...) {
					if wantBears(t, lease(p, m, 100), 99, q, n) {
						count++
					}
				}
			}
		}
	}
	if count < 60 {
		t.Errorf("%d of them bear", count)
	}
}

func TestBearsOfEachStamp(t *testing.T) {
	for _, s := range stampsOf {
		if !wantBears(t, lease("a", shared, 100, s...), 99, "a/b", shared) {
			t.Errorf("under %v it bears nothing", s)
		}
	}
	for _, s := range noStamps {
		if wantBears(t, lease("a", shared, 100, s...), 99, "a/b", shared) {
			t.Errorf("under %v it bears", s[:min(len(s), 9)])
		}
	}
}

// A lease's other fields don't count.
func TestBearsOfAnyOtherFields(t *testing.T) {
	for _, n := range numbers {
		for _, expiry := range []int{9, 10} {
			l := api.Lease{From: n, Id: n, Path: "a", Mode: shared, Stamp: []int{1}, Term: n, Sent: n, Expiry: expiry}
			if wantBears(t, l, 9, "a", shared) != (expiry == 10) {
				t.Errorf("%v", l)
			}
		}
	}
}

// threeGrants: records of a ledger with three grants, and this longest term.
func threeGrants(most int) []api.Rec {
	return []api.Rec{
		longest(most), granted(1, 1, "a", shared, 4), granted(2, 1, "a/b", exclusive, most), granted(3, 7, "c", shared, 9, 8, 7),
		fresh(2, 5, 4), boot, end(1), granted(5, 0, "d", shared, 5),
	}
}

func TestOpenOfNoLedger(t *testing.T) {
	for _, now := range numbers {
		if g, e := grantor.Open(nil, now); g != nil || e != api.ErrNil {
			t.Errorf("Open(nil, %d): %d", now, e)
		}
	}
}

func TestOpenAtEachTime(t *testing.T) {
	for _, records := range [][]api.Rec{nil, {boot}, {longest(4)}, threeGrants(9), threeGrants(mostTerm)} {
		for _, now := range append(append(slices.Clone(goodTimes), badTimes...), numbers...) {
			p := on(t, imageOf(1, records...))
			e := p.open(now)
			if (e == api.OK) != in(now, 0, mostTime) || p.d.Writes() != 0 {
				t.Fatalf("Open at %d: %d, with %d writes", now, e, p.d.Writes())
			}
		}
	}
}

// By hand: each grant is unexpired till the quarantine ends, and not longer.
func TestOpenHoldsEachGrant(t *testing.T) {
	p := opened(t, 1000, threeGrants(300)...)
	if q := p.g.Quarantine(); q != 1300 {
		t.Errorf("Quarantine = %d", q)
	}
	var ids []int
	for _, h := range p.g.List() {
		ids = append(ids, h.Grant.Id)
		if h.Expiry != 1300 || h.Origin != 0 || h.Number != 0 {
			t.Errorf("%v", h)
		}
	}
	if !slices.Equal(ids, []int{2, 3, 5}) {
		t.Errorf("the grants %v", ids)
	}
	for _, now := range []int{0, 999, 1000, 1299, 1300, 1301} {
		if p.g.Blocks(now, "c", exclusive) != (now < 1300) {
			t.Errorf("Blocks at %d", now)
		}
	}
	p.fails(api.ErrQuarantine)(p.grant(1299, root, 2, "x", shared, 9))
	if x := p.must(p.grant(1300, root, 2, "a/b", exclusive, 9)); x.Id != 6 || len(p.g.List()) != 1 {
		t.Errorf("%v, among %v", x, p.g.List())
	}
}

// Also of the same ledger: marks are gone, and expiries begin anew.
func TestOpenAgain(t *testing.T) {
	p := started(t)
	p.must(p.grant(10, root, 1, "a", exclusive, 100))
	p.mark(1, 3, 4)
	for _, now := range []int{20, 15, 500} {
		p.open(now)
		if h, _ := p.g.Held(1); h.Expiry != now+100 || h.Number != 0 {
			t.Errorf("%v", h)
		}
	}
	p.mark(1, 3, 4)
	p.again(700)
	p.must(p.renew(750, root, 1, 1, 60, false))
}

// What a ledger that is dead says is still there.
func TestOpenOfADeadLedger(t *testing.T) {
	p := opened(t, 0, threeGrants(300)...)
	p.arm(0)
	if ok, e := p.end(2, 1); ok || e != api.ErrPower {
		t.Fatalf("End: %t, %d", ok, e)
	}
	p.open(5)
	if len(p.g.List()) != 3 {
		t.Errorf("List = %v", p.g.List())
	}
	p.fails(api.ErrPower)(p.grant(305, root, 1, "x", shared, 9))
}

// Of a ledger that isn't open there is nothing, and nothing can be granted.
func TestOpenOfAZeroLedger(t *testing.T) {
	g, e := grantor.Open(&ledger.Ledger{}, 5)
	if e != api.OK || g.Quarantine() != 5 || len(g.List()) != 0 {
		t.Fatalf("Open: %d", e)
	}
	if x, e := g.Grant(5, root, 1, "a", shared, 9); e != api.ErrNil || !reflect.ValueOf(x).IsZero() {
		t.Errorf("Grant: %v, %d", x, e)
	}
	if ok, e := g.End(1, 1); ok || e != api.OK {
		t.Errorf("End: %t, %d", ok, e)
	}
}

// P16.2.

func TestGrantOfEachThing(t *testing.T) {
	for _, now := range goodTimes {
		for _, holder := range []int{0, 1, 6, 7} {
			for _, path := range goodPaths {
				for _, mode := range []api.Mode{shared, exclusive} {
					for _, term := range []int{4, 5, 100, mostTerm - 1, mostTerm} {
						p := started(t)
						x := p.must(p.grant(now, root, holder, path, mode, term))
						want := api.Grant{Id: 1, Holder: holder, Path: path, Mode: mode, Stamp: []int{1}, Term: term}
						if h, ok := p.g.Held(1); !sameGrant(x, want) || !ok || h.Expiry != now+term || h.Number != 0 {
							t.Fatalf("%v, of which is held %v", x, h)
						}
						wantRecords(t, written(t, p.d), longest(term), api.Rec{Kind: 4, Grant: want})
					}
				}
			}
		}
	}
}

// Each of the errors by itself.
func TestGrantIsRefused(t *testing.T) {
	p := started(t)
	for _, now := range badTimes {
		p.fails(api.ErrRange)(p.grant(now, root, 1, "a", shared, 9))
	}
	for _, n := range badNodes {
		p.fails(api.ErrRange)(p.grant(5, root, n, "a", shared, 9))
	}
	for _, s := range badPaths {
		p.fails(api.ErrPath)(p.grant(5, root, 1, s, shared, 9))
	}
	for _, m := range badModes {
		p.fails(api.ErrMode)(p.grant(5, root, 1, "a", m, 9))
	}
	for _, n := range badTerms {
		p.fails(api.ErrTerm)(p.grant(5, root, 1, "a", shared, n))
	}
	for _, own := range []api.Lease{{}, lease("b", 2, 100), lease("a", 1, 100), lease("a", 2, 5), lease("a", 2, 100, 0), lease("a/b", 2, 100), lease("a", 2, 100, 1, 2, 3, 4, 5)} {
		p.fails(api.ErrNoLease)(p.grant(5, own, 1, "a", exclusive, 9))
	}
	p.fails(api.ErrTooDeep)(p.grant(5, lease("a", 2, 100, 1, 2, 3, 4), 1, "a", shared, 9))
	p.fails(api.ErrOutlast)(p.grant(5, lease("a", 2, 15, 1, 2, 3), 1, "a", shared, 9))
	p.must(p.grant(5, lease("a", 2, 16, 1, 2, 3), 1, "a", shared, 9))
	p.fails(api.ErrHeld)(p.grant(13, root, 2, "a/b", exclusive, 9))
	for range 5 {
		p.must(p.grant(13, root, 2, "c", shared, 9))
	}
	p.fails(api.ErrFull)(p.grant(13, root, 2, "c", shared, 9))
	p.must(p.grant(14, root, 2, "c", shared, 9))
}

// fault: one that a request may have, and its error.
type fault struct {
	e    api.Errno
	make func(r *request)
}

// request: what Grant, or Renew, is asked for; and the ledger's Next.
type request struct {
	next                  int
	now                   int
	own                   api.Lease
	id, holder            int
	path                  string
	mode                  api.Mode
	t                     int
	anew, isFull, isOther bool
	marked                bool
}

// grantorFor: a grantor that is in quarantine till 100, with a grant of "a" to
// the holder 1, Id 1, and with others of "z"; all of them till 150.
func grantorFor(t *testing.T, r request) *pair {
	t.Helper()
	records := []api.Rec{counter(r.next), longest(100), kept(1, 1, "a", exclusive, 9)}
	for id := 2; id <= 5; id++ {
		records = append(records, kept(id, 3, "z", shared, 9))
	}
	if r.isFull {
		records = append(records, kept(6, 3, "z", shared, 9))
	}
	p := opened(t, 0, records...)
	for _, h := range p.g.List() {
		p.must(p.renew(50, root, h.Grant.Id, h.Grant.Holder, 100, false))
	}
	if r.marked {
		p.mark(1, 0, 9)
	}
	return p
}

// firstOf up to three faults at once is the answer; without one there is none.
func firstOf(t *testing.T, base request, faults []fault, ask func(p *pair, r request) (api.Grant, api.Errno)) {
	t.Helper()
	for bits := range uint(1 << len(faults)) {
		if mathbits.OnesCount(bits) > 3 {
			continue
		}
		r, want := base, api.OK
		for i := len(faults) - 1; i >= 0; i-- {
			if bits>>i&1 == 1 {
				faults[i].make(&r)
				want = faults[i].e
			}
		}
		p := grantorFor(t, r)
		writes := p.d.Writes()
		if x, e := ask(p, r); e != want || e != api.OK && (p.d.Writes() != writes || !reflect.ValueOf(x).IsZero()) {
			t.Fatalf("%v: %v, %d, not %d, and %d writes", r, x, e, want, p.d.Writes()-writes)
		}
	}
}

// leaseFaults: what may be wrong with the own lease, each beside the others.
var leaseFaults = []fault{
	{api.ErrNoLease, func(r *request) { r.own.Recalled = true }},
	{api.ErrTooDeep, func(r *request) { r.own.Stamp = []int{1, 2, 3, 4} }},
	{api.ErrOutlast, func(r *request) { r.own.Expiry = 111 }},
}

// Several of the errors at once: the first in the chapter's order is answered.
func TestGrantIsRefusedForTheFirstReason(t *testing.T) {
	base := request{next: 100, now: 100, own: lease("", exclusive, 900, 7), holder: 2, path: "b", mode: shared, t: 10}
	faults := []fault{
		{api.ErrRange, func(r *request) { r.now = -1 }},
		{api.ErrRange, func(r *request) { r.holder = 8 }},
		{api.ErrPath, func(r *request) { r.path = "b/" }},
		{api.ErrMode, func(r *request) { r.mode = 3 }},
		{api.ErrTerm, func(r *request) { r.t = 3 }},
		{api.ErrQuarantine, func(r *request) { r.now = 99 }},
	}
	faults = append(faults, leaseFaults...)
	faults = append(faults,
		fault{api.ErrHeld, func(r *request) { r.path = "a" }},
		fault{api.ErrFull, func(r *request) { r.isFull = true }},
		fault{api.ErrCounts, func(r *request) { r.next = mostCount + 1 }},
	)
	grant := func(p *pair, r request) (api.Grant, api.Errno) {
		return p.grant(r.now, r.own, r.holder, r.path, r.mode, r.t)
	}
	firstOf(t, base, faults, grant)
}

// The quarantine ends just now.
func TestGrantAboutTheQuarantine(t *testing.T) {
	for _, start := range []int{0, 1, 77, mostTime - 4, mostTime - 3} {
		for _, records := range [][]api.Rec{{longest(4)}, {longest(4), granted(1, 1, "a", exclusive, 4)}} {
			for _, by := range []int{-5, -4, -1, 0, 1} {
				p := opened(t, start, records...)
				x, e := p.grant(start+4+by, root, 2, "a", exclusive, 9)
				want := api.OK
				switch {
				case !in(start+4+by, 0, mostTime):
					want = api.ErrRange
				case by < 0:
					want = api.ErrQuarantine
				}
				if e != want {
					t.Errorf("opened at %d, at %d: %v, %d", start, start+4+by, x, e)
				}
			}
		}
	}
}

// The own lease outlasts what is granted by Guard, at least.
func TestGrantAboutTheOwnExpiry(t *testing.T) {
	for _, now := range goodTimes {
		for _, term := range []int{4, 5, 70, mostTerm} {
			for by, want := range map[int]api.Errno{-2: api.ErrOutlast, -1: api.ErrOutlast, 0: api.OK, 1: api.OK} {
				p := started(t)
				_, e := p.grant(now, lease("a", shared, now+term+2+by, 4), 1, "a", shared, term)
				if e != want {
					t.Errorf("at %d, for %d, under a lease till %d more: %d", now, term, by, e)
				}
			}
			for by, want := range map[int]api.Errno{-1: api.ErrNoLease, 0: api.ErrNoLease, 1: api.ErrOutlast} {
				p := started(t)
				p.fails(want)(p.grant(now, lease("a", shared, now+by, 4), 1, "a", shared, term))
			}
		}
	}
}

// A stamp has a counter more than the own one.
func TestGrantUnderEachStamp(t *testing.T) {
	for _, s := range stampsOf {
		p := opened(t, 0, counter(70))
		x, e := p.grant(3, lease("a", exclusive, 100, s...), 1, "a/b", shared, 9)
		if len(s) == 4 {
			p.fails(api.ErrTooDeep)(x, e)
			continue
		}
		if p.must(x, e); !slices.Equal(x.Stamp, append(slices.Clone(s), 70)) || x.Id != 70 {
			t.Errorf("under %v: %v", s, x)
		}
	}
}

// RecLongest is written just where the term is longer than all before.
func TestGrantAboutTheLongest(t *testing.T) {
	for _, most := range []int{0, 4, 5, 100, mostTerm} {
		for _, term := range []int{4, 5, 6, 99, 100, 101, mostTerm - 1, mostTerm} {
			var records []api.Rec
			if most > 0 {
				records = append(records, longest(most))
			}
			p := opened(t, 0, records...)
			p.must(p.grant(most, root, 1, "a", shared, term))
			want := []api.Rec{granted(1, 1, "a", shared, term)}
			if term > most {
				want = append([]api.Rec{longest(term)}, want...)
			}
			wantRecords(t, written(t, p.d)[len(records):], want...)
		}
	}
}

// The grants that aren't unexpired are ended ahead, by their Ids, whoever holds
// them, wherever they are, marked or not; and no others.
func TestGrantEndsWhatIsOver(t *testing.T) {
	for _, now := range []int{20, 29, 30, 31, 39, 40, 41, 100} {
		p := started(t)
		p.must(p.grant(0, root, 1, "a", shared, 30))
		p.must(p.grant(0, root, 2, "b", exclusive, 20))
		p.must(p.grant(0, root, 2, "c", exclusive, 40))
		p.must(p.grant(0, root, 5, "d", exclusive, 10))
		p.must(p.renew(5, root, 4, 5, 15, true))
		p.must(p.renew(5, root, 3, 2, 15, true))
		p.mark(1, 3, 3)
		before := len(written(t, p.d))
		p.must(p.grant(now, root, 6, "e", shared, 5))
		var want []api.Rec
		for id, expiry := range []int{0, 30, 20, 40, 20} {
			if id > 0 && expiry <= now {
				want = append(want, end(id))
			}
		}
		wantRecords(t, written(t, p.d)[before:], append(want, granted(7, 6, "e", shared, 5))...)
	}
}

// With a longer term, RecLongest comes first.
func TestGrantWritesInOrder(t *testing.T) {
	p := opened(t, 0, threeGrants(10)...)
	p.must(p.grant(10, lease("", exclusive, 900, 77), 3, "x", exclusive, 11))
	wantRecords(t, written(t, p.d)[8:], longest(11), end(2), end(3), end(5), granted(6, 3, "x", exclusive, 11, 77))
}

// A grant stands against one that overlaps it, of another holder, unless both are
// Shared, as long as it is unexpired.
func TestGrantOfWhatIsHeld(t *testing.T) {
	for _, there := range goodPaths {
		for _, path := range goodPaths {
			for _, modes := range [][2]api.Mode{{1, 1}, {1, 2}, {2, 1}, {2, 2}} {
				for _, now := range []int{5, 14, 15, 16} {
					for _, holder := range []int{0, 3, 7} {
						p := started(t)
						p.must(p.grant(5, root, 3, there, modes[0], 10))
						_, e := p.grant(now, root, holder, path, modes[1], 9)
						held := now < 15 && holder != 3 && against(there, modes[0], path, modes[1])
						if held != (e == api.ErrHeld) || !held && e != api.OK {
							t.Fatalf("%q %d behind %q, at %d: %d", path, modes[1], there, now, e)
						}
					}
				}
			}
		}
	}
}

// One of many is enough, and those of the same holder stand in no one's way.
func TestGrantOfWhatOneOfManyHolds(t *testing.T) {
	p := started(t)
	for _, path := range []string{"", "a", "a/b", "a/b/c"} {
		p.must(p.grant(1, root, 4, path, shared, 50))
	}
	p.must(p.grant(1, root, 5, "a/b", shared, 20))
	p.fails(api.ErrHeld)(p.grant(2, root, 4, "a", exclusive, 9))
	p.fails(api.ErrHeld)(p.grant(20, root, 4, "a", exclusive, 9))
	p.must(p.grant(21, root, 4, "a", exclusive, 9))
	p.fails(api.ErrHeld)(p.grant(21, root, 5, "a/b", shared, 9))
	p.must(p.grant(30, root, 5, "a/b", shared, 9))
}

// A renewal holds it as long as it runs.
func TestGrantOfWhatWasRenewed(t *testing.T) {
	p := started(t)
	p.must(p.grant(1, root, 4, "a", exclusive, 10))
	p.must(p.renew(10, root, 1, 4, 30, false))
	p.fails(api.ErrHeld)(p.grant(39, root, 5, "a/b", shared, 9))
	p.must(p.grant(40, root, 5, "a/b", shared, 9))
}

// A mark doesn't set it free, an end does.
func TestGrantOfWhatIsMarkedAndEnded(t *testing.T) {
	for _, done := range []bool{false, true} {
		p := started(t)
		p.must(p.grant(1, root, 4, "a", exclusive, 10))
		p.mark(1, 2, 3)
		p.fails(api.ErrHeld)(p.grant(2, root, 5, "a/b", shared, 9))
		if done {
			p.done(1, 4, 2, 3)
		} else {
			p.end(1, 4)
		}
		p.must(p.grant(2, root, 5, "a/b", shared, 9))
	}
}

// MaxGrants may be unexpired.
func TestGrantOfMany(t *testing.T) {
	for _, expired := range []int{0, 1, 5, 6} {
		p := started(t)
		for i := range mostHeld {
			term := 50
			if i < expired {
				term = 10
			}
			p.must(p.grant(0, root, i, "a", shared, term))
		}
		p.fails(api.ErrFull)(p.grant(9, root, 7, "a", shared, 9))
		p.fails(api.ErrHeld)(p.grant(9, root, 7, "a", exclusive, 9))
		x, e := p.grant(10, root, 7, "a", shared, 9)
		if expired == 0 {
			p.fails(api.ErrFull)(x, e)
		} else if p.must(x, e); len(p.g.List()) != mostHeld-expired+1 {
			t.Errorf("List = %v", p.g.List())
		}
	}
}

// The last counter is given out, and then there is none.
func TestGrantOfTheLastCounter(t *testing.T) {
	p := opened(t, 0, counter(mostCount-1))
	p.must(p.grant(1, root, 1, "a", shared, 9))
	x := p.must(p.grant(1, lease("", 2, 100, 3), 1, "a", shared, 9))
	if x.Id != mostCount || !slices.Equal(x.Stamp, []int{3, mostCount}) {
		t.Errorf("%v", x)
	}
	p.fails(api.ErrCounts)(p.grant(2, root, 1, "a", shared, 9))
	p.fails(api.ErrHeld)(p.grant(2, root, 2, "a", exclusive, 9))
	// Though what is over would be ended ahead.
	writes := p.d.Writes()
	p.fails(api.ErrCounts)(p.grant(200, root, 1, "a", shared, 50))
	if len(p.g.List()) != 2 || p.d.Writes() != writes {
		t.Errorf("List = %v", p.g.List())
	}
	p.fails(api.ErrCounts)(opened(t, 0, counter(mostCount+1)).grant(0, root, 1, "a", shared, 9))
}

// longPath is the path with the most bytes: with a long stamp, too, the record of
// a grant of it takes two sectors.
const longPath = "abcdef/ghijkl/mnopqr/stuvwx"

// deep: a lease under which stamps are long.
var deep = lease("", exclusive, forever, mostCount, mostCount-1, mostCount-2)

// Where an Append fails, what was appended ahead of it counts.
func TestGrantWhileThePowerFails(t *testing.T) {
	counts := map[int]int{}
	for writes := range 8 {
		p := opened(t, 0, threeGrants(10)...)
		p.arm(writes)
		x, e := p.grant(10, deep, 3, longPath, exclusive, 11)
		counts[p.d.Writes()]++
		if (e == api.OK) != (writes >= 6) {
			t.Fatalf("with %d writes: %v, %d", writes, x, e)
		}
		if e != api.OK {
			p.fails(api.ErrPower)(x, e)
			want := []api.Rec{longest(11), end(2), end(3), end(5)}
			wantRecords(t, written(t, p.d)[8:], want[:min(writes, 4)]...)
		}
		// It lives on, and its ledger is dead: what needs no record is granted.
		p.asksAll()
		p.power()
		_, e = p.grant(30, root, 3, "y", exclusive, 10)
		if (e == api.ErrPower) != (writes < 6) {
			t.Errorf("Grant later: %d", e)
		}
		if writes == 1 {
			p.must(p.renew(9, root, 3, 7, 11, false))
			p.fails(api.ErrPower)(p.renew(9, root, 3, 7, 12, false))
			p.fails(api.ErrPower)(p.renew(9, root, 3, 7, 11, true))
		}
		p.again(40)
		p.must(p.grant(51, root, 3, "y", exclusive, 10))
	}
	if len(counts) != 7 {
		t.Errorf("so many writes: %v", counts)
	}
}

// worn: a grantor whose ledger has room for so many sectors, and can't make any.
func worn(t *testing.T, now, room int, records ...api.Rec) *pair {
	t.Helper()
	for sectorsOf(records) < 24-room {
		records = append(records, boot)
	}
	p := on(t, imageOf(mostGen, records...))
	if p.l.Used() != 24-room {
		t.Fatalf("%d sectors are used", p.l.Used())
	}
	p.open(now)
	return p
}

// sectorsOf these records.
func sectorsOf(records []api.Rec) int {
	count := 0
	for _, r := range records {
		b, _ := book.Encode(r)
		count += max(1, (len(b)+46)/47)
	}
	return count
}

// A ledger that is worn isn't dead: what was appended counts from now on.
func TestGrantWhileTheLedgerIsWorn(t *testing.T) {
	for room := range 8 {
		p := worn(t, 0, room, threeGrants(10)...)
		x, e := p.grant(10, deep, 3, longPath, exclusive, 11)
		if room >= 6 {
			p.must(x, e)
			continue
		}
		p.fails(api.ErrWorn)(x, e)
		p.asksAll()
		if n := len(p.g.List()); n != 3-min(3, max(0, room-1)) {
			t.Errorf("with room for %d: %d grants", room, n)
		}
		// And once more it comes as far as there is room.
		x, e = p.grant(11, root, 3, "x", exclusive, 11)
		if (e == api.OK) != (room == 5) {
			t.Errorf("with room for %d: %v, %d", room, x, e)
		}
	}
}

// P16.3.

func TestRenewOfEachThing(t *testing.T) {
	for _, anew := range []bool{false, true} {
		for _, holder := range []int{0, 1, 7} {
			for _, path := range goodPaths {
				for _, mode := range []api.Mode{shared, exclusive} {
					for _, term := range []int{4, 9, 10, 50, mostTerm} {
						for _, now := range []int{5, 6, 14} {
							p := started(t)
							p.must(p.grant(5, root, holder, path, mode, 10))
							p.must(p.grant(5, root, holder, "x", mode, 50))
							x := p.must(p.renew(now, lease(path, 2, forever, 7, 8), 1, holder, term, anew))
							want := api.Grant{Id: 1, Holder: holder, Path: path, Mode: mode, Stamp: []int{1}, Term: 10}
							if anew {
								want.Stamp = []int{7, 8, 3}
							}
							h, _ := p.g.Held(1)
							if !sameGrant(x, want) || !sameGrant(h.Grant, want) || h.Expiry != max(15, now+term) {
								t.Fatalf("%v, of which is held %v", x, h)
							}
						}
					}
				}
			}
		}
	}
}

// Each of the errors by itself.
func TestRenewIsRefused(t *testing.T) {
	p := opened(t, 0, counter(50), kept(3, 1, "a/b", exclusive, 9, 7), kept(9, 2, "c", shared, 9), longest(20))
	for _, now := range badTimes {
		p.fails(api.ErrRange)(p.renew(now, root, 3, 1, 9, false))
	}
	for _, n := range badNodes {
		p.fails(api.ErrRange)(p.renew(5, root, 3, n, 9, false))
	}
	for _, n := range badTerms {
		p.fails(api.ErrTerm)(p.renew(5, root, 3, 1, n, true))
	}
	for _, n := range numbers {
		if n != 3 {
			p.fails(api.ErrUnknown)(p.renew(5, root, n, 1, 9, true))
		}
	}
	for holder := range 8 {
		if holder != 1 {
			p.fails(api.ErrUnknown)(p.renew(5, root, 3, holder, 9, true))
		}
	}
	p.fails(api.ErrUnknown)(p.renew(20, root, 3, 1, 9, true))
	for _, own := range []api.Lease{{}, lease("b", 2, 100), lease("a/b", 1, 100), lease("a/b", 2, 5), lease("a/b", 2, 100, 0), lease("a/b/c", 2, 100), lease("a", 0, 100)} {
		p.fails(api.ErrNoLease)(p.renew(5, own, 3, 1, 9, false))
	}
	p.fails(api.ErrTooDeep)(p.renew(5, lease("a", 2, 100, 1, 2, 3, 4), 3, 1, 9, true))
	p.fails(api.ErrOutlast)(p.renew(5, lease("a", 2, 15, 1, 2, 3), 3, 1, 9, true))
	p.fails(api.ErrOutlast)(p.renew(5, lease("a", 2, 15), 3, 1, 9, false))
	p.mark(3, 0, 1)
	p.fails(api.ErrRecalled)(p.renew(5, root, 3, 1, 9, false))
	if h, _ := p.g.Held(3); h.Expiry != 20 || !slices.Equal(h.Grant.Stamp, []int{7, 3}) || p.d.Writes() != 0 {
		t.Errorf("%v, and %d writes", h, p.d.Writes())
	}
}

// Several at once: the first in the chapter's order is answered.
func TestRenewIsRefusedForTheFirstReason(t *testing.T) {
	base := request{next: 100, now: 100, own: lease("", exclusive, 900, 7), id: 1, holder: 1, t: 10, anew: true}
	faults := []fault{
		{api.ErrRange, func(r *request) { r.now = mostTime + 1 }},
		{api.ErrTerm, func(r *request) { r.t = 3 }},
		{api.ErrUnknown, func(r *request) { r.holder = 3 }},
		{api.ErrUnknown, func(r *request) { r.id = 7 }},
		{api.ErrRecalled, func(r *request) { r.marked = true }},
	}
	faults = append(faults, leaseFaults...)
	faults = append(faults, fault{api.ErrCounts, func(r *request) { r.next = mostCount + 1 }})
	renew := func(p *pair, r request) (api.Grant, api.Errno) {
		return p.renew(r.now, r.own, r.id, r.holder, r.t, r.anew)
	}
	firstOf(t, base, faults, renew)
	// Without a new stamp, neither the own one nor the counters count.
	base.anew, base.own.Stamp, base.next = false, []int{1, 2, 3, 4}, mostCount+1
	firstOf(t, base, append(faults[:6:6], faults[7]), renew)
}

func TestRenewAboutTheExpiry(t *testing.T) {
	for _, now := range []int{0, 14, 15, 16, mostTime} {
		for _, holder := range []int{1, 2} {
			p := started(t)
			p.must(p.grant(5, root, 1, "a", exclusive, 10))
			x, e := p.renew(now, root, 1, holder, 4, now%2 == 0)
			if (e == api.OK) != (now < 15 && holder == 1) {
				t.Errorf("at %d: %v, %d", now, x, e)
			}
		}
	}
}

// An expiry rises, and never falls.
func TestRenewRaisesTheExpiry(t *testing.T) {
	p := started(t)
	p.must(p.grant(50, root, 1, "a", exclusive, 100))
	for _, c := range [][3]int{{60, 89, 150}, {60, 90, 150}, {60, 91, 151}, {3, 140, 151}, {150, 4, 154}, {0, mostTerm, mostTerm}, {90, 4, mostTerm}, {mostTerm - 1, 4, mostTerm + 3}} {
		for _, anew := range []bool{false, true} {
			x := p.must(p.renew(c[0], root, 1, 1, c[1], anew))
			if h, _ := p.g.Held(1); h.Expiry != c[2] || x.Term != 100 {
				t.Errorf("at %d for %d: till %d", c[0], c[1], h.Expiry)
			}
		}
	}
}

func TestRenewAboutTheOwnExpiry(t *testing.T) {
	for _, now := range []int{10, 19, 1000, mostTime} {
		for _, term := range []int{4, 5, 70, mostTerm} {
			for by, want := range map[int]api.Errno{-2: api.ErrOutlast, -1: api.ErrOutlast, 0: api.OK, 1: api.OK} {
				for _, anew := range []bool{false, true} {
					p := started(t)
					p.must(p.grant(now, root, 1, "a/b", shared, 10))
					_, e := p.renew(now, lease("a", shared, now+term+2+by, 4), 1, 1, term, anew)
					if e != want {
						t.Errorf("at %d, for %d, under a lease till %d more: %d", now, term, by, e)
					}
				}
			}
		}
	}
}

// Just a fresh renewal has a new stamp, which is one counter deeper than the own
// one.
func TestRenewUnderEachStamp(t *testing.T) {
	for _, s := range stampsOf {
		p := opened(t, 0, counter(70))
		p.must(p.grant(3, lease("a", exclusive, 100, 5, 6), 1, "a/b", shared, 9))
		own := lease("a", exclusive, 100, s...)
		x := p.must(p.renew(3, own, 70, 1, 9, false))
		if !slices.Equal(x.Stamp, []int{5, 6, 70}) {
			t.Errorf("under %v, not fresh: %v", s, x)
		}
		x, e := p.renew(3, own, 70, 1, 9, true)
		if len(s) == 4 {
			p.fails(api.ErrTooDeep)(x, e)
			continue
		}
		if p.must(x, e); !slices.Equal(x.Stamp, append(slices.Clone(s), 71)) || x.Id != 70 {
			t.Errorf("under %v: %v", s, x)
		}
	}
}

// What is renewed is written where it has to be.
func TestRenewWrites(t *testing.T) {
	for _, anew := range []bool{false, true} {
		for _, term := range []int{4, 19, 20, 21, mostTerm} {
			p := started(t)
			p.must(p.grant(1, root, 1, "a", shared, 20))
			p.must(p.grant(1, root, 2, "b", shared, 5))
			before := len(written(t, p.d))
			// (What is over stays.)
			p.must(p.renew(9, lease("", 2, forever, 4), 1, 1, term, anew))
			var want []api.Rec
			if term > 20 {
				want = append(want, longest(term))
			}
			if anew {
				want = append(want, fresh(1, 4, 3))
			}
			wantRecords(t, written(t, p.d)[before:], want...)
		}
	}
}

func TestRenewInQuarantine(t *testing.T) {
	p := opened(t, 1000, threeGrants(300)...)
	for i, anew := range []bool{false, true} {
		p.must(p.renew(1000, root, 3, 7, 9, anew))
		p.must(p.renew(1299, root, 3, 7, 9+i, anew))
	}
	p.fails(api.ErrUnknown)(p.renew(1300, root, 2, 1, 9, false))
	p.must(p.renew(1300, root, 3, 7, 9, false))
}

// A new Stamp wants a counter.
func TestRenewOfTheLastCounter(t *testing.T) {
	p := opened(t, 0, counter(mostCount), kept(1, 1, "a", exclusive, 9), longest(50))
	x := p.must(p.renew(1, root, 1, 1, 9, true))
	if !slices.Equal(x.Stamp, []int{mostCount}) {
		t.Errorf("%v", x)
	}
	writes := p.d.Writes()
	p.fails(api.ErrCounts)(p.renew(1, root, 1, 1, 90, true))
	if p.d.Writes() != writes {
		t.Error("it writes")
	}
	p.must(p.renew(1, root, 1, 1, 90, false))
}

func TestRenewWhileThePowerFails(t *testing.T) {
	for _, anew := range []bool{false, true} {
		for writes := range 4 {
			p := started(t)
			p.must(p.grant(1, root, 1, "a", shared, 20))
			p.arm(writes)
			x, e := p.renew(9, root, 1, 1, 50, anew)
			if enough := writes > 1 || writes == 1 && !anew; enough != (e == api.OK) {
				t.Fatalf("with %d writes: %v, %d", writes, x, e)
			}
			if h, _ := p.g.Held(1); e != api.OK && (h.Expiry != 21 || !slices.Equal(h.Grant.Stamp, []int{1})) {
				t.Errorf("%v", h)
			}
			if e != api.OK {
				p.fails(api.ErrPower)(x, e)
			}
			p.asksAll()
			p.again(20)
			// The first write is that of the longest term.
			if q := p.g.Quarantine(); (q == 70) != (writes > 0) || (q == 40) != (writes == 0) {
				t.Errorf("with %d writes, the quarantine ends at %d", writes, q)
			}
		}
	}
}

func TestRenewWhileTheLedgerIsWorn(t *testing.T) {
	for room := range 3 {
		p := worn(t, 0, room, threeGrants(10)...)
		x, e := p.renew(5, root, 3, 7, 11, true)
		h, _ := p.g.Held(3)
		if room == 2 {
			p.must(x, e)
			continue
		}
		if p.fails(api.ErrWorn)(x, e); h.Expiry != 10 || p.l.Book().Longest != 10+room {
			t.Errorf("with room for %d: %v, %v", room, h, p.l.Book())
		}
		// What was appended isn't appended again, and what needs no record is done.
		x, e = p.renew(5, root, 3, 7, 11, false)
		if (e == api.OK) != (room == 1) {
			t.Errorf("with room for %d: %v, %d", room, x, e)
		}
		p.must(p.renew(5, root, 3, 7, 10, false))
	}
}

// P16.4.

func TestEnd(t *testing.T) {
	for _, id := range []int{2, 3, 5} {
		p := opened(t, 0, threeGrants(300)...)
		h, _ := p.g.Held(id)
		for holder := -1; holder < 9; holder++ {
			if ok, e := p.end(id, holder); ok != (holder == h.Grant.Holder) || e != api.OK {
				t.Errorf("End(%d, %d) = %t, %d", id, holder, ok, e)
			}
		}
		wantRecords(t, written(t, p.d)[8:], end(id))
		if ok, e := p.end(id, h.Grant.Holder); ok || e != api.OK || len(p.g.List()) != 2 {
			t.Errorf("a second End: %t, %d", ok, e)
		}
	}
	p := opened(t, 0, threeGrants(300)...)
	for _, n := range numbers {
		for _, holder := range append(slices.Clone(badNodes), 0, 1, 7) {
			if there := n == 2 && holder == 1 || n == 3 && holder == 7 || n == 5 && holder == 0; there {
				continue
			}
			if ok, e := p.end(n, holder); ok || e != api.OK {
				t.Errorf("End(%d, %d) = %t, %d", n, holder, ok, e)
			}
		}
	}
	if len(p.g.List()) != 3 || p.d.Writes() != 0 {
		t.Errorf("List = %v", p.g.List())
	}
}

// What is expired, and what is marked, ends as well.
func TestEndOfWhatIsOverAndMarked(t *testing.T) {
	p := started(t)
	p.must(p.grant(1, root, 1, "a", shared, 5))
	p.must(p.grant(1, root, 1, "b", shared, 90))
	p.must(p.grant(1, root, 1, "c", shared, 90))
	p.fails(api.ErrUnknown)(p.renew(6, root, 1, 1, 9, false))
	p.mark(3, 0, 7)
	for _, id := range []int{1, 3} {
		if ok, e := p.end(id, 1); !ok || e != api.OK {
			t.Errorf("End(%d): %t, %d", id, ok, e)
		}
	}
	if l := p.g.List(); len(l) != 1 || l[0].Grant.Id != 2 {
		t.Errorf("List = %v", l)
	}
}

func TestEndWhileAppendsFail(t *testing.T) {
	for _, byDone := range []bool{false, true} {
		finish := func(p *pair) (bool, api.Errno) {
			if byDone {
				return p.done(3, 7, 0, 5)
			}
			return p.end(3, 7)
		}
		p := opened(t, 0, threeGrants(300)...)
		p.mark(3, 0, 5)
		p.arm(0)
		for range 3 {
			if ok, e := finish(p); ok || e != api.ErrPower || len(p.g.List()) != 3 {
				t.Errorf("%t, %d", ok, e)
			}
			p.power()
		}
		if h, _ := p.g.Held(3); h.Number != 5 || h.Expiry != 300 {
			t.Errorf("%v", h)
		}
		p = worn(t, 0, 0, threeGrants(300)...)
		p.mark(3, 0, 5)
		if ok, e := finish(p); ok || e != api.ErrWorn || len(p.g.List()) != 3 {
			t.Errorf("%t, %d", ok, e)
		}
	}
}

func TestMark(t *testing.T) {
	for _, id := range []int{-1, 0, 1, 2, 3, 257} {
		for _, origin := range append(slices.Clone(badNodes), 0, 1, 7) {
			for _, number := range numbers {
				p := opened(t, 0, granted(1, 1, "a", shared, 9), granted(2, 1, "a", shared, 9))
				want := (id == 1 || id == 2) && in(origin, 0, 7) && number >= 1
				if ok := p.mark(id, origin, number); ok != want || p.d.Writes() != 0 {
					t.Fatalf("Mark(%d, %d, %d) = %t", id, origin, number, ok)
				}
				if !want {
					continue
				}
				// A second one comes too late, be it the same one.
				if p.mark(id, origin, number) || p.mark(id, 3, 3) || p.mark(id, 0, 0) {
					t.Error("it is marked twice")
				}
				if h, _ := p.g.Held(id); h.Origin != origin || h.Number != number {
					t.Errorf("%v", h)
				}
			}
		}
	}
}

// What is expired can be marked, and a mark changes no expiry.
func TestMarkOfWhatIsOver(t *testing.T) {
	p := started(t)
	p.must(p.grant(1, root, 1, "a", shared, 5))
	p.must(p.grant(1, root, 1, "b", shared, 90))
	p.must(p.renew(50, root, 2, 1, 10, false))
	for id, expiry := range []int{0, 6, 91} {
		if ok := p.mark(id, 7, 1); ok != (id > 0) {
			t.Errorf("Mark(%d) = %t", id, ok)
		}
		if h, _ := p.g.Held(id); h.Expiry != expiry {
			t.Errorf("%v", h)
		}
	}
}

func TestDone(t *testing.T) {
	for id := range 4 {
		for holder := -1; holder < 4; holder++ {
			for origin := -1; origin < 4; origin++ {
				for number := -1; number < 8; number++ {
					p := opened(t, 0, granted(1, 1, "a", shared, 9), granted(2, 2, "a", shared, 9))
					p.mark(1, 3, 5)
					want := id == 1 && holder == 1 && origin == 3 && number == 5
					if ok, e := p.done(id, holder, origin, number); ok != want || e != api.OK {
						t.Fatalf("Done(%d, %d, %d, %d) = %t, %d", id, holder, origin, number, ok, e)
					}
					if !want {
						continue
					}
					wantRecords(t, written(t, p.d)[2:], end(1))
					if ok, e := p.done(id, holder, origin, number); ok || e != api.OK {
						t.Errorf("doubled: %t, %d", ok, e)
					}
				}
			}
		}
	}
}

// Without a mark there is nothing to be done, whatever is told.
func TestDoneOfWhatIsNotMarked(t *testing.T) {
	p := opened(t, 0, threeGrants(300)...)
	for _, origin := range numbers {
		for _, number := range numbers {
			for _, of := range [][2]int{{2, 1}, {3, 7}, {5, 0}, {4, 0}, {0, 0}, {origin, number}} {
				if ok, e := p.g.Done(of[0], of[1], origin, number); ok || e != api.OK {
					t.Fatalf("Done(%v, %d, %d) = %t, %d", of, origin, number, ok, e)
				}
			}
		}
	}
	p.check()
}

// What comes late, behind a new beginning, is of a mark that is gone.
func TestDoneThatComesLate(t *testing.T) {
	p := started(t)
	p.must(p.grant(1, root, 1, "a", shared, 50))
	p.mark(1, 3, 5)
	p.again(10)
	if ok, e := p.done(1, 1, 3, 5); ok || e != api.OK {
		t.Errorf("%t, %d", ok, e)
	}
	p.mark(1, 3, 6)
	if ok, e := p.done(1, 1, 3, 5); ok || e != api.OK {
		t.Errorf("%t, %d", ok, e)
	}
	if ok, e := p.done(1, 1, 3, 6); !ok || e != api.OK {
		t.Errorf("%t, %d", ok, e)
	}
}

// Done of what is over, and marked, ends it too.
func TestDoneOfWhatIsOver(t *testing.T) {
	p := started(t)
	p.must(p.grant(1, root, 1, "a", shared, 5))
	p.mark(1, 7, mostCount)
	p.must(p.grant(4, root, 2, "b", shared, 5))
	if ok, e := p.done(1, 1, 7, mostCount); !ok || e != api.OK || len(p.g.List()) != 1 {
		t.Errorf("%t, %d", ok, e)
	}
}

// P16.5.

func TestAskingOfEachPath(t *testing.T) {
	for _, mode := range []api.Mode{shared, exclusive} {
		for _, there := range goodPaths {
			p := started(t)
			p.must(p.grant(5, root, 3, there, mode, 10))
			for _, now := range []int{-1, 0, 5, 14, 15, 16} {
				for _, path := range append(slices.Clone(goodPaths), badPaths...) {
					for _, m := range append([]api.Mode{1, 2}, badModes...) {
						p.asks(now, path, m)
					}
				}
			}
		}
	}
}

// Whoever holds a grant, it blocks.
func TestBlocksWhoeverHoldsIt(t *testing.T) {
	for holder := range 8 {
		p := started(t)
		p.must(p.grant(5, root, holder, "a/b", shared, 10))
		for _, path := range []string{"", "a", "a/b", "a/b/c"} {
			if !p.g.Blocks(14, path, exclusive) || p.g.Blocks(15, path, exclusive) || p.g.Blocks(14, path, shared) {
				t.Errorf("held by %d, Blocks of %q", holder, path)
			}
		}
		if p.g.Blocks(14, "a/c", exclusive) || p.g.Blocks(14, "a/b", 0) || p.g.Blocks(14, "a/b", 3) || p.g.Blocks(14, "a/", exclusive) {
			t.Error("Blocks of something else")
		}
	}
}

// By hand: what is under a path, by Id.
func TestUnder(t *testing.T) {
	p := started(t)
	for i, path := range []string{"c", "a/b", "a", "a/b/c", "ab", "a"} {
		p.must(p.grant(5, root, 1, path, exclusive, 10+i))
	}
	p.mark(4, 0, 3)
	for path, want := range map[string][]int{"": {1, 2, 3, 4, 5, 6}, "a": {2, 3, 4, 6}, "a/b": {2, 4}, "a/b/c": {4}, "a/b/c/d": nil, "b": nil, "a/": nil} {
		for _, now := range []int{5, 17, 30} {
			var ids, still []int
			for _, h := range p.g.Under(now, path) {
				ids = append(ids, h.Grant.Id)
				if (h.Grant.Id == 4) != (h.Number == 3) || h.Expiry != 14+h.Grant.Id {
					t.Errorf("%v", h)
				}
			}
			for _, id := range want {
				if 14+id > now {
					still = append(still, id)
				}
			}
			if !slices.Equal(ids, still) {
				t.Errorf("Under(%d, %q) = %v", now, path, ids)
			}
		}
	}
}

// List and Held tell of what is over, too, till it is ended.
func TestListOfWhatIsOver(t *testing.T) {
	p := started(t)
	p.must(p.grant(5, root, 1, "b", exclusive, 10))
	p.must(p.grant(5, root, 2, "a", exclusive, 20))
	for range 2 {
		if h, ok := p.g.Held(1); !ok || h.Expiry != 15 || len(p.g.List()) != 2 || p.g.Blocks(15, "b", shared) || len(p.g.Under(15, "")) != 1 {
			t.Errorf("%v, %t", h, ok)
		}
		p.fails(api.ErrUnknown)(p.renew(15, root, 1, 1, 9, false))
		p.fails(api.ErrHeld)(p.grant(15, root, 1, "", exclusive, 9))
	}
	p.must(p.grant(15, root, 1, "c", exclusive, 9))
	if h, ok := p.g.Held(1); ok || len(p.g.List()) != 2 {
		t.Errorf("%v, %t", h, ok)
	}
}

func TestManyGrantsOfAnyPaths(t *testing.T) {
	dice := rand.New(rand.NewSource(164))
	for range 60 {
		p := started(t)
		for range 12 {
			p.grant(dice.Intn(9), root, dice.Intn(3), goodPaths[dice.Intn(len(goodPaths))], api.Mode(1+dice.Intn(2)), 4+dice.Intn(9))
		}
		p.asksAll()
	}
}
