package holder_test

import (
	"maps"
	"math"
	"math/rand"
	"reflect"
	"regexp"
	"slices"
	"strings"
	"testing"

	"sublet/api"
	"sublet/holder"
)

// The document's numbers, by hand.
const (
	mostRho    = 999
	leastTerm  = 4
	mostTerm   = 1048576
	mostTime   = 1152921504606846976
	forever    = 4611686018427387904
	mostCount  = 1099511627776
	mostNode   = 7
	mostLeases = 8
)

// The modes, as the document numbers them.
const (
	shared    api.Mode = 1
	exclusive api.Mode = 2
)

// Numbers that may and may not be, the least and the greatest among them, and
// those at which numbers of fewer bits would be taken for one another.
var numbers = []int{
	math.MinInt, math.MinInt + 1, -1 << 40, -1 << 32, -8, -2, -1, 0, 1, 2, 3, 4, 5, 7, 8, 9, 255, 256, 257, 998, 999, 1000,
	mostTerm - 1, mostTerm, mostTerm + 1, 1 << 32, 1<<32 + 1, mostCount - 1, mostCount, mostCount + 1,
	mostTime - 1, mostTime, mostTime + 1, forever - 1, forever, forever + 1, math.MaxInt - 1, math.MaxInt,
}

var (
	goodPaths  = []string{"", "a", "b", "a/b", "a/c", "ab", "a/b/c", "a/b/c/d", "abcdef/ghijkl/012345/678901"}
	badPaths   = []string{"/", "a/", "/a", "a//b", "A", "a b", "abcdefg", "a/b/c/d/e", "\xff", "a\x00", strings.Repeat("a/", 5000)}
	badModes   = []api.Mode{math.MinInt, -2, -1, 0, 3, 4, 257, 258, 1<<32 + 1, math.MaxInt}
	goodTerms  = []int{leastTerm, leastTerm + 1, 30, 100, 1000, mostTerm - 1, mostTerm}
	badTerms   = []int{math.MinInt, -4, -1, 0, 1, 2, 3, mostTerm + 1, 1<<32 + 4, math.MaxInt}
	badNodes   = []int{math.MinInt, -2, -1, 8, 9, 256, 1 << 32, math.MaxInt}
	badIds     = []int{math.MinInt, -2, -1, 0, mostCount + 1, 1 << 62, math.MaxInt}
	goodStamps = [][]int{{1}, {2}, {10}, {1, 1}, {1, 2, 3}, {5, mostCount, 1, 9}, {mostCount}, {mostCount, mostCount, mostCount, mostCount}}
	badStamps  = [][]int{nil, {}, {0}, {-1}, {1, 0}, {mostCount + 1}, {1, 2, 3, 4, 5}, {math.MinInt}, {1, 2, 3, math.MaxInt}, make([]int, 4000)}
	rhos       = []int{0, 1, 10, 100, 333, 500, 998, 999}
)

// pathForm says what a path is.
var pathForm = regexp.MustCompile(`\A([a-z0-9]{1,6}(/[a-z0-9]{1,6}){0,3})?\z`)

func in(n, from, to int) bool { return from <= n && n <= to }

// isStamp: one of a lease, which isn't empty.
func isStamp(s []int) bool {
	return in(len(s), 1, 4) && !slices.ContainsFunc(s, func(n int) bool { return !in(n, 1, mostCount) })
}

// shrunk: the greatest number that isn't above t * (1000 - rho) / (1000 + rho),
// found bit by bit.
func shrunk(t, rho int) int {
	n := 0
	for bit := 1 << 20; bit > 0; bit /= 2 {
		if (n+bit)*(1000+rho) <= t*(1000-rho) {
			n += bit
		}
	}
	return n
}

// bears says what layer 16's Bears has to, of a lease that a holder has.
func bears(l api.Lease, now int, path string, mode api.Mode) bool {
	covers := l.Path == "" || strings.HasPrefix(path+"/", l.Path+"/")
	return covers && !l.Recalled && l.Expiry > now && (l.Mode == exclusive || mode == shared)
}

// preferred: is x preferred to y?
func preferred(x, y api.Lease) bool {
	if x.Expiry != y.Expiry {
		return x.Expiry > y.Expiry
	}
	if n := slices.Compare(x.Stamp, y.Stamp); n != 0 {
		return n > 0
	}
	if x.From != y.From {
		return x.From < y.From
	}
	return x.Id < y.Id
}

// grant: whose one a lease is of, and which.
type grant struct{ from, id int }

func of(l api.Lease) grant { return grant{l.From, l.Id} }

// model: what a holder has to keep; and of each lease all the ends till which it
// may be counted on, each with a now that isn't below the moment it is counted from.
type model struct {
	rho    int
	leases map[grant]api.Lease
	ends   map[grant][]int
}

func newModel(rho int) *model {
	return &model{rho: rho, leases: map[grant]api.Lease{}, ends: map[grant][]int{}}
}

// copied: a model that goes on apart.
func (m *model) copied() *model {
	other := newModel(m.rho)
	for g, l := range m.leases {
		other.leases[g], other.ends[g] = l, slices.Clone(m.ends[g])
	}
	return other
}

// running: how many leases have an Expiry above now.
func (m *model) running(now int) int {
	n := 0
	for _, l := range m.leases {
		if l.Expiry > now {
			n++
		}
	}
	return n
}

// add answers what Add has to.
func (m *model) add(now, sent int, l api.Lease) api.Errno {
	_, twice := m.leases[of(l)]
	switch {
	case sent < 0 || sent > now || now > mostTime || !in(l.From, 0, mostNode) || !in(l.Id, 1, mostCount):
		return api.ErrRange
	case !pathForm.MatchString(l.Path):
		return api.ErrPath
	case l.Mode != shared && l.Mode != exclusive:
		return api.ErrMode
	case !isStamp(l.Stamp):
		return api.ErrStamp
	case !in(l.Term, leastTerm, mostTerm):
		return api.ErrTerm
	case twice:
		return api.ErrTwice
	case sent+shrunk(l.Term, m.rho) <= now:
		return api.ErrNoLease
	case m.running(now) >= mostLeases:
		return api.ErrFull
	}
	m.sweep(now)
	end := sent + shrunk(l.Term, m.rho)
	m.leases[of(l)] = api.Lease{From: l.From, Id: l.Id, Path: l.Path, Mode: l.Mode, Stamp: slices.Clone(l.Stamp), Term: l.Term, Sent: sent, Expiry: end}
	m.ends[of(l)] = []int{end}
	return api.OK
}

// renewed answers what Renewed has to.
func (m *model) renewed(now, sent, from, id int, stamp []int, t int) bool {
	g := grant{from, id}
	l, there := m.leases[g]
	if sent < 0 || sent > now || now > mostTime || !in(t, leastTerm, mostTerm) || !isStamp(stamp) || !there || l.Recalled {
		return false
	}
	end := sent + shrunk(t, m.rho)
	if end > l.Expiry {
		l.Expiry = end
	}
	if sent > l.Sent {
		l.Sent = sent
	}
	if slices.Compare(stamp, l.Stamp) > 0 {
		l.Stamp = slices.Clone(stamp)
	}
	l.Term = t
	m.leases[g] = l
	m.ends[g] = append(m.ends[g], end)
	return true
}

// recall answers what Recall has to.
func (m *model) recall(from, id int) bool {
	l, there := m.leases[grant{from, id}]
	if !there || l.Recalled {
		return false
	}
	l.Recalled = true
	m.leases[of(l)] = l
	return true
}

// drop answers what Drop has to.
func (m *model) drop(from, id int) bool {
	g := grant{from, id}
	_, there := m.leases[g]
	delete(m.leases, g)
	delete(m.ends, g)
	return there
}

// sweep answers what Sweep has to.
func (m *model) sweep(now int) int {
	gone := 0
	for _, l := range m.list() {
		if l.Expiry <= now {
			m.drop(l.From, l.Id)
			gone++
		}
	}
	return gone
}

// list answers what List has to.
func (m *model) list() []api.Lease {
	return slices.SortedFunc(maps.Values(m.leases), func(x, y api.Lease) int {
		return slices.Compare([]int{x.From, x.Id}, []int{y.From, y.Id})
	})
}

// use answers what Use has to.
func (m *model) use(now int, path string, mode api.Mode) (api.Lease, api.Errno) {
	if !pathForm.MatchString(path) {
		return api.Lease{}, api.ErrPath
	}
	if mode != shared && mode != exclusive {
		return api.Lease{}, api.ErrMode
	}
	best, e := api.Lease{}, api.ErrNoLease
	for _, l := range m.list() {
		if bears(l, now, path, mode) && (e != api.OK || preferred(l, best)) {
			best, e = l, api.OK
		}
	}
	return best, e
}

// same: are the two alike? (No stamp and the empty one are one.)
func same(x, y api.Lease) bool {
	stamps := slices.Equal(x.Stamp, y.Stamp)
	x.Stamp, y.Stamp = nil, nil
	return stamps && reflect.DeepEqual(x, y)
}

// lease: one that may be, of this grant.
func lease(from, id int, path string, mode api.Mode, t int, stamp ...int) api.Lease {
	return api.Lease{From: from, Id: id, Path: path, Mode: mode, Stamp: stamp, Term: t}
}

// pair: a holder and its model. What is done to the one is done to the other, the
// answers are held against each other, and so is all that is told behind it.
type pair struct {
	t *testing.T
	h *holder.Holder
	m *model
}

// started: a holder without leases, and its model.
func started(t *testing.T, rho int) *pair {
	t.Helper()
	h, e := holder.New(rho)
	if h == nil || e != api.OK {
		t.Fatalf("New(%d) = %v, %d", rho, h, e)
	}
	p := &pair{t: t, h: h, m: newModel(rho)}
	p.check()
	return p
}

// check holds what a holder tells of its leases against the model.
func (p *pair) check() {
	p.t.Helper()
	want := p.m.list()
	got := p.h.List()
	if !slices.EqualFunc(got, want, same) {
		p.t.Fatalf("List = %v, not %v", got, want)
	}
	for _, l := range want {
		p.get(l.From, l.Id)
		p.get(l.From+1, l.Id)
		p.get(l.From, l.Id+1)
		p.get(l.Id, l.From)
	}
}

func (p *pair) get(from, id int) (api.Lease, bool) {
	p.t.Helper()
	want, there := p.m.leases[grant{from, id}]
	if l, ok := p.h.Get(from, id); !same(l, want) || ok != there {
		p.t.Fatalf("Get(%d, %d) = %v, %t, not %v, %t", from, id, l, ok, want, there)
	}
	return want, there
}

func (p *pair) add(now, sent int, l api.Lease) api.Errno {
	p.t.Helper()
	want := p.m.add(now, sent, l)
	if e := p.h.Add(now, sent, l); e != want {
		p.t.Fatalf("Add(%d, %d, %v) = %d, not %d", now, sent, l, e, want)
	}
	p.check()
	return want
}

func (p *pair) renewed(now, sent, from, id int, stamp []int, t int) bool {
	p.t.Helper()
	want := p.m.renewed(now, sent, from, id, stamp, t)
	if ok := p.h.Renewed(now, sent, from, id, stamp, t); ok != want {
		p.t.Fatalf("Renewed(%d, %d, %d, %d, %v, %d) = %t", now, sent, from, id, stamp, t, ok)
	}
	p.check()
	return want
}

func (p *pair) recall(from, id int) bool {
	p.t.Helper()
	want := p.m.recall(from, id)
	if ok := p.h.Recall(from, id); ok != want {
		p.t.Fatalf("Recall(%d, %d) = %t", from, id, ok)
	}
	p.check()
	return want
}

func (p *pair) drop(from, id int) bool {
	p.t.Helper()
	want := p.m.drop(from, id)
	if ok := p.h.Drop(from, id); ok != want {
		p.t.Fatalf("Drop(%d, %d) = %t", from, id, ok)
	}
	p.check()
	return want
}

func (p *pair) sweep(now int) int {
	p.t.Helper()
	want := p.m.sweep(now)
	if n := p.h.Sweep(now); n != want {
		p.t.Fatalf("Sweep(%d) = %d, not %d", now, n, want)
	}
	p.check()
	return want
}

func (p *pair) use(now int, path string, mode api.Mode) (api.Lease, api.Errno) {
	p.t.Helper()
	want, bad := p.m.use(now, path, mode)
	got, e := p.h.Use(now, path, mode)
	if !same(got, want) || e != bad {
		p.t.Fatalf("Use(%d, %.40q, %d) = %v, %d, not %v, %d", now, path, mode, got, e, want, bad)
	}
	if e == api.OK {
		p.checkShort(now, got)
	}
	return got, e
}

// checkShort: P17.7, of a lease that Use answered.
func (p *pair) checkShort(now int, l api.Lease) {
	p.t.Helper()
	if l.Recalled || !slices.ContainsFunc(p.m.ends[of(l)], func(end int) bool { return now < end }) {
		p.t.Fatalf("at %d %v is answered, whose ends are %v", now, l, p.m.ends[of(l)])
	}
}

// usesAll asks for each path and mode at the moments around each Expiry.
func (p *pair) usesAll() {
	p.t.Helper()
	for _, l := range p.m.list() {
		for now := l.Expiry - 1; now <= l.Expiry+1; now++ {
			for _, path := range goodPaths {
				p.use(now, path, shared)
				p.use(now, path, exclusive)
			}
		}
	}
	p.check()
}

// must: an Add that is to go well.
func (p *pair) must(now, sent int, l api.Lease) {
	p.t.Helper()
	if e := p.add(now, sent, l); e != api.OK {
		p.t.Fatalf("Add(%d, %d, %v) = %d", now, sent, l, e)
	}
}

// fails: an Add that isn't.
func (p *pair) fails(want api.Errno, now, sent int, l api.Lease) {
	p.t.Helper()
	if e := p.add(now, sent, l); e != want {
		p.t.Fatalf("Add(%d, %d, %v) = %d, not %d", now, sent, l, e, want)
	}
}

// some: any lease, mostly one that may be, of few grants.
func some(dice *rand.Rand) api.Lease {
	l := lease(dice.Intn(3), 1+dice.Intn(6), []string{"", "a", "a/b", "a/b/c", "b"}[dice.Intn(5)], api.Mode(1+dice.Intn(2)), 4+dice.Intn(40), 1+dice.Intn(3))
	if dice.Intn(3) == 0 {
		l.Stamp = append(l.Stamp, 1+dice.Intn(3))
	}
	// What l has there doesn't count.
	l.Sent, l.Expiry, l.Recalled = dice.Intn(99), dice.Intn(99), dice.Intn(3) == 0
	switch dice.Intn(25) {
	case 0:
		l.Path = badPaths[dice.Intn(len(badPaths))]
	case 1:
		l.Mode = badModes[dice.Intn(len(badModes))]
	case 2:
		l.Stamp = badStamps[dice.Intn(len(badStamps))]
	case 3:
		l.Term = badTerms[dice.Intn(len(badTerms))]
	case 4:
		l.From = badNodes[dice.Intn(len(badNodes))]
	case 5:
		l.Id = badIds[dice.Intn(len(badIds))]
	}
	return l
}

// step does any one thing to a holder and to its model.
func (p *pair) step(dice *rand.Rand, now int) {
	p.t.Helper()
	l := some(dice)
	sent := now - dice.Intn(20) + 1
	switch dice.Intn(12) {
	case 0, 1, 2, 3:
		p.add(now, sent, l)
	case 4, 5, 6, 7:
		p.renewed(now, sent, l.From, l.Id, l.Stamp, l.Term)
	case 8:
		if dice.Intn(2) == 0 {
			p.recall(l.From, l.Id)
		}
	case 9:
		p.drop(l.From, l.Id)
	case 10:
		p.sweep(now - dice.Intn(10))
	}
	for range 3 {
		p.use(now+dice.Intn(30)-5, some(dice).Path, api.Mode(dice.Intn(9)/4+1))
	}
}
