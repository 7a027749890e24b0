package grantor_test

import (
	"bytes"
	"math"
	"math/rand"
	"reflect"
	"regexp"
	"slices"
	"strings"
	"testing"

	"sublet/api"
	"sublet/book"
	"sublet/disk"
	"sublet/grantor"
	"sublet/ledger"
	"sublet/sectors"
)

// The document's numbers, by hand.
const (
	need      = 49
	mostGen   = 1073741824
	mostCount = 1099511627776
	leastTerm = 4
	mostTerm  = 1048576
	mostTime  = 1152921504606846976
	forever   = 4611686018427387904
	guard     = 2
	mostDepth = 4
	mostHeld  = 6
)

// The modes, as the document numbers them.
const (
	shared    api.Mode = 1
	exclusive api.Mode = 2
)

// Numbers that may and may not be, the least and the greatest among them, and
// those at which numbers of fewer bits would be taken for one another.
var numbers = []int{
	math.MinInt, math.MinInt + 1, -1 << 40, -1 << 32, -8, -2, -1, 0, 1, 2, 3, 4, 5, 7, 8, 9, 255, 256, 257,
	mostTerm - 1, mostTerm, mostTerm + 1, 1 << 32, 1<<32 + 1, mostCount - 1, mostCount, mostCount + 1,
	mostTime - 1, mostTime, mostTime + 1, forever - 1, forever, forever + 1, math.MaxInt - 1, math.MaxInt,
}

var (
	goodPaths = []string{"", "a", "b", "a/b", "a/c", "ab", "a/b/c", "a/b/c/d", "abcdef/ghijkl/012345/678901"}
	badPaths  = []string{"/", "a/", "/a", "a//b", "A", "a b", "abcdefg", "a/b/c/d/e", "\xff", "a\x00", strings.Repeat("a/", 5000)}
	goodTimes = []int{0, 1, 2, 99, 1 << 32, mostTime - 1, mostTime}
	badTimes  = []int{math.MinInt, -1 << 32, -2, -1, mostTime + 1, forever, math.MaxInt}
	badModes  = []api.Mode{math.MinInt, -2, -1, 0, 3, 4, 257, 258, 1<<32 + 1, math.MaxInt}
	badTerms  = []int{math.MinInt, -4, -1, 0, 1, 2, 3, mostTerm + 1, 1<<32 + 4, math.MaxInt}
	badNodes  = []int{math.MinInt, -2, -1, 8, 9, 256, 1 << 32, math.MaxInt}
	stampsOf  = [][]int{nil, {}, {1}, {7, 2}, {1, 2, 3}, {5, mostCount, 1, 9}, {mostCount}}
	noStamps  = [][]int{{0}, {-1}, {1, 0}, {mostCount + 1}, {1, 2, 3, 4, 5}, {math.MinInt}, {1, 2, 3, math.MaxInt}, make([]int, 4000)}
)

// pathForm says what a path is.
var pathForm = regexp.MustCompile(`\A([a-z0-9]{1,6}(/[a-z0-9]{1,6}){0,3})?\z`)

func in(n, from, to int) bool { return from <= n && n <= to }

// covers: of two paths.
func covers(p, q string) bool {
	return pathForm.MatchString(p) && pathForm.MatchString(q) && (p == "" || strings.HasPrefix(q+"/", p+"/"))
}

// against: do these two, of unlike holders, not go together?
func against(p string, a api.Mode, q string, b api.Mode) bool {
	return (covers(p, q) || covers(q, p)) && !(a == 1 && b == 1)
}

// bears says what Bears has to.
func bears(l api.Lease, now int, path string, mode api.Mode) bool {
	if l.Recalled || l.Expiry <= now || !covers(l.Path, path) || len(l.Stamp) > 4 {
		return false
	}
	for _, n := range l.Stamp {
		if !in(n, 1, mostCount) {
			return false
		}
	}
	switch [2]api.Mode{l.Mode, mode} {
	case [2]api.Mode{2, 2}, [2]api.Mode{2, 1}, [2]api.Mode{1, 1}:
		return true
	}
	return false
}

// lease: one of a path, under this stamp.
func lease(path string, mode api.Mode, expiry int, stamp ...int) api.Lease {
	return api.Lease{From: 3, Id: 5, Path: path, Mode: mode, Stamp: stamp, Term: 9, Sent: 4, Expiry: expiry}
}

// root: the root's own lease, by hand.
var root = api.Lease{Mode: 2, Expiry: forever}

// These are records.

func counter(next int) api.Rec { return api.Rec{Kind: 1, Next: next} }

func longest(t int) api.Rec { return api.Rec{Kind: 2, Longest: t} }

func fresh(id int, stamp ...int) api.Rec { return api.Rec{Kind: 5, Id: id, Stamp: stamp} }

func end(id int) api.Rec { return api.Rec{Kind: 6, Id: id} }

var boot = api.Rec{Kind: 7}

// granted: the record of a grant, under a stamp of its own and those ahead.
func granted(id, holder int, path string, mode api.Mode, t int, ahead ...int) api.Rec {
	x := api.Grant{Id: id, Holder: holder, Path: path, Mode: mode, Stamp: append(slices.Clone(ahead), id), Term: t}
	return api.Rec{Kind: 4, Grant: x}
}

// kept: the same of one that was given before a compaction.
func kept(id, holder int, path string, mode api.Mode, t int, ahead ...int) api.Rec {
	r := granted(id, holder, path, mode, t, ahead...)
	r.Kind = 3
	return r
}

// imageOf a disk on which these records stand in area 0.
func imageOf(gen int, records ...api.Rec) [][]byte {
	image := make([][]byte, need)
	for i := range image {
		image[i] = make([]byte, 64)
	}
	at := 0
	lay := func(seq int, data []byte) {
		l, e := sectors.Pack(gen, seq, data)
		if e != api.OK {
			panic("no sectors")
		}
		at += copy(image[at:], l)
	}
	lay(0, []byte{0})
	for i, r := range records {
		data, e := book.Encode(r)
		if e != api.OK {
			panic("no record")
		}
		lay(i, data)
	}
	return image
}

// written: the records that stand in area 0 of a disk.
func written(t *testing.T, d *disk.Disk) []api.Rec {
	t.Helper()
	image := d.Image()
	head, e := sectors.Look(image[0])
	if e != api.OK || !bytes.Equal(head.Data, []byte{0}) {
		t.Fatalf("the head is %v, %d", head, e)
	}
	all, _ := sectors.Scan(image[1:25], head.Gen)
	var records []api.Rec
	for _, data := range all {
		r, e := book.Decode(data)
		if e != api.OK {
			t.Fatalf("no record: %x", data)
		}
		records = append(records, r)
	}
	return records
}

// model: what a grantor has to keep; and a ledger of its own, to which the
// records are appended that the document names.
type model struct {
	disk          *disk.Disk
	ledger        *ledger.Ledger
	next, longest int
	grants        []api.Held
	quarantine    int
}

// open answers what Open has to, of a ledger that is opened just now.
func (m *model) open(now int) api.Errno {
	if !in(now, 0, mostTime) {
		return api.ErrRange
	}
	b := m.ledger.Book()
	m.next, m.longest, m.grants, m.quarantine = b.Next, b.Longest, nil, now+b.Longest
	for _, x := range b.Grants {
		m.grants = append(m.grants, api.Held{Grant: x, Expiry: now + b.Longest})
	}
	return api.OK
}

// append records, till one fails.
func (m *model) append(records ...api.Rec) api.Errno {
	for _, r := range records {
		if e := m.ledger.Append(r); e != api.OK {
			return e
		}
		switch r.Kind {
		case 2:
			m.longest = r.Longest
		case 4:
			m.grants = append(m.grants, api.Held{Grant: r.Grant})
			m.next++
		case 5:
			m.grants[m.find(r.Id)].Grant.Stamp = r.Stamp
			m.next++
		case 6:
			i := m.find(r.Id)
			m.grants = slices.Delete(m.grants, i, i+1)
		}
	}
	return api.OK
}

// find: where the grant of this Id is, or -1.
func (m *model) find(id int) int {
	return slices.IndexFunc(m.grants, func(h api.Held) bool { return h.Grant.Id == id })
}

// unexpired: the grants that are.
func (m *model) unexpired(now int) []api.Held {
	var all []api.Held
	for _, h := range m.grants {
		if h.Expiry > now {
			all = append(all, h)
		}
	}
	return all
}

// stands: does an unexpired grant of another holder stand against this?
func (m *model) stands(now int, path string, mode api.Mode, holder int) bool {
	for _, h := range m.unexpired(now) {
		if h.Grant.Holder != holder && against(h.Grant.Path, h.Grant.Mode, path, mode) {
			return true
		}
	}
	return false
}

// grant answers what Grant has to.
func (m *model) grant(now int, own api.Lease, holder int, path string, mode api.Mode, t int) (api.Grant, api.Errno) {
	none := api.Grant{}
	switch {
	case !in(now, 0, mostTime) || !in(holder, 0, 7):
		return none, api.ErrRange
	case !pathForm.MatchString(path):
		return none, api.ErrPath
	case mode != 1 && mode != 2:
		return none, api.ErrMode
	case !in(t, leastTerm, mostTerm):
		return none, api.ErrTerm
	case now < m.quarantine:
		return none, api.ErrQuarantine
	case !bears(own, now, path, mode):
		return none, api.ErrNoLease
	case len(own.Stamp) == mostDepth:
		return none, api.ErrTooDeep
	case own.Expiry < now+t+guard:
		return none, api.ErrOutlast
	case m.stands(now, path, mode, holder):
		return none, api.ErrHeld
	case len(m.unexpired(now)) == mostHeld:
		return none, api.ErrFull
	case m.next > mostCount:
		return none, api.ErrCounts
	}
	var records []api.Rec
	if t > m.longest {
		records = append(records, longest(t))
	}
	for _, h := range m.grants {
		if h.Expiry <= now {
			records = append(records, end(h.Grant.Id))
		}
	}
	r := granted(m.next, holder, path, mode, t, own.Stamp...)
	if e := m.append(append(records, r)...); e != api.OK {
		return none, e
	}
	m.grants[len(m.grants)-1].Expiry = now + t
	return r.Grant, api.OK
}

// renew answers what Renew has to.
func (m *model) renew(now int, own api.Lease, id, holder, t int, anew bool) (api.Grant, api.Errno) {
	none := api.Grant{}
	i := m.find(id)
	switch {
	case !in(now, 0, mostTime) || !in(holder, 0, 7):
		return none, api.ErrRange
	case !in(t, leastTerm, mostTerm):
		return none, api.ErrTerm
	case i < 0 || m.grants[i].Expiry <= now || m.grants[i].Grant.Holder != holder:
		return none, api.ErrUnknown
	case m.grants[i].Number != 0:
		return none, api.ErrRecalled
	case !bears(own, now, m.grants[i].Grant.Path, m.grants[i].Grant.Mode):
		return none, api.ErrNoLease
	case anew && len(own.Stamp) == mostDepth:
		return none, api.ErrTooDeep
	case own.Expiry < now+t+guard:
		return none, api.ErrOutlast
	case anew && m.next > mostCount:
		return none, api.ErrCounts
	}
	var records []api.Rec
	if t > m.longest {
		records = append(records, longest(t))
	}
	if anew {
		records = append(records, fresh(id, append(slices.Clone(own.Stamp), m.next)...))
	}
	if e := m.append(records...); e != api.OK {
		return none, e
	}
	m.grants[i].Expiry = max(m.grants[i].Expiry, now+t)
	return m.grants[i].Grant, api.OK
}

// end answers what End has to.
func (m *model) end(id, holder int) (bool, api.Errno) {
	if i := m.find(id); i < 0 || m.grants[i].Grant.Holder != holder {
		return false, api.OK
	}
	e := m.append(end(id))
	return e == api.OK, e
}

// mark answers what Mark has to.
func (m *model) mark(id, origin, number int) bool {
	i := m.find(id)
	if i < 0 || m.grants[i].Number != 0 || !in(origin, 0, 7) || number < 1 {
		return false
	}
	m.grants[i].Origin, m.grants[i].Number = origin, number
	return true
}

// done answers what Done has to.
func (m *model) done(id, holder, origin, number int) (bool, api.Errno) {
	i := m.find(id)
	if i < 0 || number < 1 || m.grants[i].Origin != origin || m.grants[i].Number != number {
		return false, api.OK
	}
	return m.end(id, holder)
}

// pair: a grantor and its model.
type pair struct {
	t      *testing.T
	d      *disk.Disk
	l      *ledger.Ledger
	g      *grantor.Grantor
	m      *model
	expiry map[int]int  // of each grant, as it was told last
	latest int          // the latest now of all calls
	given  map[int]bool // the counters that were given out
}

// on: a pair on a disk of these sectors, on which nothing is open yet.
func on(t *testing.T, image [][]byte) *pair {
	t.Helper()
	p := &pair{t: t, m: &model{}, expiry: map[int]int{}, given: map[int]bool{}}
	for _, d := range []**disk.Disk{&p.d, &p.m.disk} {
		var e api.Errno
		if *d, e = disk.From(image); e != api.OK {
			t.Fatalf("no disk: %d", e)
		}
	}
	p.openLedgers()
	return p
}

// openLedgers on both disks.
func (p *pair) openLedgers() {
	p.t.Helper()
	var e, f api.Errno
	p.l, e = ledger.Open(p.d)
	p.m.ledger, f = ledger.Open(p.m.disk)
	if e != api.OK || f != api.OK {
		p.t.Fatalf("ledger.Open: %d, %d", e, f)
	}
}

// opened: a grantor that is opened at now over a ledger of these records.
func opened(t *testing.T, now int, records ...api.Rec) *pair {
	t.Helper()
	p := on(t, imageOf(1, records...))
	p.open(now)
	return p
}

// started: a grantor of a new ledger, opened at 0.
func started(t *testing.T) *pair {
	t.Helper()
	return opened(t, 0)
}

// Each of these does one thing to a grantor and to its model, and holds the
// answers, and all that is told behind them, against each other.

func (p *pair) open(now int) api.Errno {
	p.t.Helper()
	want := p.m.open(now)
	g, e := grantor.Open(p.l, now)
	if e != want || (g == nil) != (e != api.OK) {
		p.t.Fatalf("Open at %d: %d, not %d", now, e, want)
	}
	if e == api.OK {
		p.g = g
		p.checkPromises(now)
		p.expiry, p.latest = map[int]int{}, max(now, p.latest)
		p.check()
	}
	return e
}

// again: the node begins anew, at now.
func (p *pair) again(now int) {
	p.t.Helper()
	p.power()
	p.openLedgers()
	p.open(now)
}

func (p *pair) grant(now int, own api.Lease, holder int, path string, mode api.Mode, t int) (api.Grant, api.Errno) {
	p.t.Helper()
	want, e := p.m.grant(now, own, holder, path, mode, t)
	x, f := p.g.Grant(now, own, holder, path, mode, t)
	if f != e || !sameGrant(x, want) {
		p.t.Fatalf("Grant(%d, %v, %d, %.40q, %d, %d) = %v, %d, not %v, %d", now, own, holder, path, mode, t, x, f, want, e)
	}
	p.nests(now, own, x, f, t, true)
	return x, f
}

func (p *pair) renew(now int, own api.Lease, id, holder, t int, anew bool) (api.Grant, api.Errno) {
	p.t.Helper()
	before, _ := p.g.Held(id)
	want, e := p.m.renew(now, own, id, holder, t, anew)
	x, f := p.g.Renew(now, own, id, holder, t, anew)
	if f != e || !sameGrant(x, want) {
		p.t.Fatalf("Renew(%d, %v, %d, %d, %d, %t) = %v, %d, not %v, %d", now, own, id, holder, t, anew, x, f, want, e)
	}
	if f == api.OK && !anew && !slices.Equal(x.Stamp, before.Grant.Stamp) {
		p.t.Fatalf("the stamp %v has become %v", before.Grant.Stamp, x.Stamp)
	}
	p.nests(now, own, x, f, t, anew)
	return x, f
}

func (p *pair) end(id, holder int) (bool, api.Errno) {
	p.t.Helper()
	want, e := p.m.end(id, holder)
	ok, f := p.g.End(id, holder)
	if ok != want || f != e {
		p.t.Fatalf("End(%d, %d) = %t, %d, not %t, %d", id, holder, ok, f, want, e)
	}
	p.check()
	return ok, f
}

func (p *pair) mark(id, origin, number int) bool {
	p.t.Helper()
	want := p.m.mark(id, origin, number)
	if ok := p.g.Mark(id, origin, number); ok != want {
		p.t.Fatalf("Mark(%d, %d, %d) = %t", id, origin, number, ok)
	}
	p.check()
	return want
}

func (p *pair) done(id, holder, origin, number int) (bool, api.Errno) {
	p.t.Helper()
	want, e := p.m.done(id, holder, origin, number)
	ok, f := p.g.Done(id, holder, origin, number)
	if ok != want || f != e {
		p.t.Fatalf("Done(%d, %d, %d, %d) = %t, %d, not %t, %d", id, holder, origin, number, ok, f, want, e)
	}
	p.check()
	return ok, f
}

// arm both disks: they take k writes more.
func (p *pair) arm(k int) {
	p.d.Arm(k)
	p.m.disk.Arm(k)
}

// power: it is on, and stays so.
func (p *pair) power() {
	p.d.On()
	p.m.disk.On()
	p.arm(-1)
}

// must: what was answered is OK.
func (p *pair) must(x api.Grant, e api.Errno) api.Grant {
	p.t.Helper()
	if e != api.OK {
		p.t.Fatalf("it is refused: %d", e)
	}
	return x
}

// fails: what was answered is this error, and nothing beside it.
func (p *pair) fails(want api.Errno) func(x api.Grant, e api.Errno) {
	p.t.Helper()
	return func(x api.Grant, e api.Errno) {
		p.t.Helper()
		if e != want || !reflect.ValueOf(x).IsZero() {
			p.t.Errorf("%v, %d, not %d", x, e, want)
		}
	}
}

// sameGrant: are they one? An empty list and none are one.
func sameGrant(a, b api.Grant) bool {
	stamps := slices.Equal(a.Stamp, b.Stamp)
	a.Stamp, b.Stamp = nil, nil
	return stamps && reflect.DeepEqual(a, b)
}

// sameHeld: are they one?
func sameHeld(a, b api.Held) bool {
	same := sameGrant(a.Grant, b.Grant)
	a.Grant, b.Grant = api.Grant{}, api.Grant{}
	return same && reflect.DeepEqual(a, b)
}

// check holds all that a grantor tells, and what stands on its disk, against the
// model; and what is promised of it whatever is called.
func (p *pair) check() {
	p.t.Helper()
	list := p.g.List()
	if !slices.EqualFunc(list, p.m.grants, sameHeld) {
		p.t.Fatalf("List = %v, not %v", list, p.m.grants)
	}
	for id := -1; id <= 9; id++ {
		p.checkHeld(id)
	}
	for _, h := range p.m.grants {
		p.checkHeld(h.Grant.Id)
	}
	if q := p.g.Quarantine(); q != p.m.quarantine {
		p.t.Fatalf("Quarantine = %d, not %d", q, p.m.quarantine)
	}
	if p.d.Writes() != p.m.disk.Writes() || !slices.EqualFunc(p.d.Image(), p.m.disk.Image(), bytes.Equal) {
		p.t.Fatalf("%d writes, not %d, and the records %v", p.d.Writes(), p.m.disk.Writes(), p.l.Book())
	}
	p.apart(list)
	for _, h := range list {
		if h.Expiry < p.expiry[h.Grant.Id] {
			p.t.Fatalf("the expiry of %v was %d", h, p.expiry[h.Grant.Id])
		}
		p.expiry[h.Grant.Id] = h.Expiry
	}
}

// checkHeld holds what is told of this Id against the model.
func (p *pair) checkHeld(id int) {
	p.t.Helper()
	want, there := api.Held{}, false
	if i := p.m.find(id); i >= 0 {
		want, there = p.m.grants[i], true
	}
	if h, ok := p.g.Held(id); ok != there || !sameHeld(h, want) {
		p.t.Fatalf("Held(%d) = %v, %t, not %v", id, h, ok, want)
	}
}

// asks holds what Blocks and Under tell at now against the model.
func (p *pair) asks(now int, path string, mode api.Mode) {
	p.t.Helper()
	good := pathForm.MatchString(path)
	blocks := good && in(int(mode), 1, 2) && p.m.stands(now, path, mode, -1)
	if got := p.g.Blocks(now, path, mode); got != blocks {
		p.t.Fatalf("Blocks(%d, %.40q, %d) = %t", now, path, mode, got)
	}
	var under []api.Held
	for _, h := range p.m.unexpired(now) {
		if covers(path, h.Grant.Path) {
			under = append(under, h)
		}
	}
	if got := p.g.Under(now, path); !slices.EqualFunc(got, under, sameHeld) {
		p.t.Fatalf("Under(%d, %.40q) = %v, not %v", now, path, got, under)
	}
}

// asksAll: of all paths and modes, about each expiry.
func (p *pair) asksAll() {
	p.t.Helper()
	for _, h := range append(slices.Clone(p.m.grants), api.Held{}) {
		for _, now := range []int{h.Expiry - 1, h.Expiry, h.Expiry + 1} {
			for _, path := range append(slices.Clone(goodPaths), "/", h.Grant.Path) {
				for _, mode := range []api.Mode{0, 1, 2, 3} {
					p.asks(now, path, mode)
				}
			}
		}
	}
}

// apart: P16.6, of what List has told.
func (p *pair) apart(list []api.Held) {
	p.t.Helper()
	if len(list) > mostHeld {
		p.t.Fatalf("there are %d grants", len(list))
	}
	for i, a := range list {
		for _, b := range list[:i] {
			if a.Grant.Holder != b.Grant.Holder && against(a.Grant.Path, a.Grant.Mode, b.Grant.Path, b.Grant.Mode) {
				p.t.Fatalf("%v stands against %v", a, b)
			}
		}
	}
}

// checkPromises: P16.7, of a grantor that was opened again at now.
func (p *pair) checkPromises(now int) {
	p.t.Helper()
	for _, h := range p.g.List() {
		if h.Expiry < p.g.Quarantine() || h.Number != 0 || h.Origin != 0 {
			p.t.Fatalf("opened again: %v, with a quarantine till %d", h, p.g.Quarantine())
		}
		if now >= p.latest && p.g.Quarantine() < p.expiry[h.Grant.Id] {
			p.t.Fatalf("%v ran till %d, and the quarantine ends at %d", h, p.expiry[h.Grant.Id], p.g.Quarantine())
		}
	}
}

// nests: P16.8, of an answer of Grant or Renew; and what is told behind it.
func (p *pair) nests(now int, own api.Lease, x api.Grant, e api.Errno, t int, anew bool) {
	p.t.Helper()
	if in(now, 0, mostTime) {
		p.latest = max(p.latest, now)
	}
	if e == api.OK {
		h, _ := p.g.Held(x.Id)
		if h.Expiry != p.expiry[x.Id] && (h.Expiry > own.Expiry-guard || h.Expiry != now+t) {
			p.t.Fatalf("%v, under %v", h, own)
		}
		last := len(x.Stamp) - 1
		if anew && (last != len(own.Stamp) || !slices.Equal(x.Stamp[:last], own.Stamp) || p.given[x.Stamp[last]]) {
			p.t.Fatalf("the stamp %v, under %v", x.Stamp, own.Stamp)
		}
		p.given[x.Stamp[last]] = true
	}
	p.check()
}

// someLease: one that bears much, mostly.
func someLease(dice *rand.Rand, now int) api.Lease {
	if dice.Intn(2) == 0 {
		return root
	}
	l := lease([]string{"", "", "a", "a/b"}[dice.Intn(4)], api.Mode(1+dice.Intn(6)%3), now+dice.Intn(90), stampsOf[dice.Intn(6)]...)
	l.Recalled = dice.Intn(20) == 0
	if dice.Intn(4) == 0 {
		l.Expiry = forever - dice.Intn(2)
	}
	return l
}

// pick one of a list, mostly of the first ones, that may be.
func pick[T any](dice *rand.Rand, good, bad []T) T {
	if dice.Intn(60) == 0 {
		return bad[dice.Intn(len(bad))]
	}
	return good[dice.Intn(len(good))]
}

// step does any one thing to a grantor and to its model, about now.
func (p *pair) step(dice *rand.Rand, now int) {
	p.t.Helper()
	now = pick(dice, []int{now}, badTimes)
	holder := pick(dice, []int{0, 1, 2, 7}, badNodes)
	t := pick(dice, []int{4, 5, 10, 20, 40, 4 + dice.Intn(60)}, badTerms)
	id := dice.Intn(9)
	if n := len(p.m.grants); n > 0 && dice.Intn(8) > 0 {
		h := p.m.grants[dice.Intn(n)].Grant
		id = h.Id
		if dice.Intn(8) > 0 {
			holder = h.Holder
		}
	}
	switch dice.Intn(12) {
	case 0, 1, 2, 3, 4, 5:
		p.grant(now, someLease(dice, now), holder, pick(dice, goodPaths, badPaths), pick(dice, []api.Mode{1, 1, 1, 2}, badModes), t)
	case 6, 7:
		p.renew(now, someLease(dice, now), id, holder, t, dice.Intn(2) == 0)
	case 8:
		p.end(id, holder)
	case 9:
		p.mark(id, pick(dice, []int{0, 7}, badNodes), dice.Intn(3))
	case 10:
		p.done(id, holder, []int{0, 7}[dice.Intn(2)], dice.Intn(3))
	default:
		p.asks(now-dice.Intn(3), goodPaths[dice.Intn(len(goodPaths))], api.Mode(dice.Intn(4)))
	}
}
