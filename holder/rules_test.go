package holder_test

import (
	"math/rand"
	"slices"
	"strings"
	"testing"

	"sublet/api"
	"sublet/holder"
)

// R1.

// Any numbers, texts and lists: nothing panics, and what is told is what is to be.
func TestCallsOfAnySize(t *testing.T) {
	long := strings.Repeat("a", 1<<16)
	p := filled(t, 5)
	for _, n := range numbers {
		for _, stamp := range [][]int{nil, {n}, {1, n}, make([]int, 1<<12)} {
			for _, path := range []string{"a", long, "\x00"} {
				p.add(n, n, lease(n, n, path, api.Mode(n), n, stamp...))
				p.add(n, 1, lease(7, 50, path, shared, 30, stamp...))
				p.add(90, n, lease(7, 50, path, shared, 30, stamp...))
				p.add(90, 90, lease(n, 50, path, shared, 30, stamp...))
				p.add(90, 90, lease(7, n, path, shared, 30, stamp...))
				p.add(90, 90, lease(7, 50, path, shared, n, stamp...))
				p.use(n, path, shared)
				p.use(n, path, api.Mode(n))
			}
			p.renewed(n, n, n, n, stamp, n)
			p.renewed(90, n, 0, 1, stamp, 30)
			p.renewed(90, 90, 1, 1, stamp, n)
			p.drop(7, 50)
		}
		p.get(n, n)
		p.recall(n, n)
		p.drop(n, n)
		p.sweep(-n)
		holder.Due(api.Lease{Sent: n, Expiry: -n})
	}
}

// R4.

// What is refused, or answered false, is told by no later call.
func TestRefusedCallsLeaveNothing(t *testing.T) {
	dice := rand.New(rand.NewSource(178))
	for range 20 {
		plain, pestered := started(t, 10), started(t, 10)
		for i := range 150 {
			for range 3 {
				pester(pestered, dice, i)
			}
			seed := dice.Int63()
			plain.step(rand.New(rand.NewSource(seed)), i)
			pestered.step(rand.New(rand.NewSource(seed)), i)
			if !slices.EqualFunc(plain.h.List(), pestered.h.List(), same) {
				t.Fatalf("behind refused calls there are %v, not %v", pestered.h.List(), plain.h.List())
			}
		}
	}
}

// pester: a call that is refused, or answered false.
func pester(p *pair, dice *rand.Rand, now int) {
	p.t.Helper()
	l := lease(0, 1, "a", shared, 30, 1)
	if all := p.m.list(); len(all) > 0 {
		l = all[dice.Intn(len(all))]
	}
	free := lease(7, 900, "a", shared, 30, 1)
	switch dice.Intn(9) {
	case 0:
		p.fails(api.ErrRange, now, now+1, free)
	case 1:
		free.Term = 3
		p.fails(api.ErrTerm, now, now, free)
	case 2:
		free.Stamp = []int{}
		p.fails(api.ErrStamp, now, now, free)
	case 3:
		p.fails(api.ErrNoLease, now+40, now, free)
	case 4:
		if _, there := p.get(l.From, l.Id); there {
			p.fails(api.ErrTwice, now, now, l)
		}
	case 5:
		p.renewed(now, now+1, l.From, l.Id, []int{9}, 90)
		p.renewed(now, now, l.From, l.Id, nil, 90)
		p.renewed(now, now, l.From, l.Id, []int{9}, 3)
	case 6:
		p.renewed(now, now, 7, 900, []int{9}, 90)
		p.recall(7, 900)
		p.drop(7, 900)
	case 7:
		p.use(now, "/", shared)
		p.use(now, "a", 0)
	default:
		p.use(now, "a", exclusive)
	}
}

// Full is refused, and what is over stays, as does all else.
func TestFullChangesNothing(t *testing.T) {
	p := filled(t, mostLeases)
	p.recall(3, 2)
	before := p.h.List()
	for range 3 {
		p.fails(api.ErrFull, 100, 100, lease(7, 900, "a", shared, 30, 1))
		// At 104 three are over, and stay, where it is refused for another reason.
		p.fails(api.ErrNoLease, 104, 74, lease(7, 900, "a", shared, 30, 1))
		p.fails(api.ErrTwice, 104, 104, lease(0, 1, "a", shared, 30, 1))
		p.fails(api.ErrTerm, 104, 104, lease(7, 900, "a", shared, 3, 1))
	}
	if !slices.EqualFunc(p.h.List(), before, same) {
		t.Errorf("List = %v, not %v", p.h.List(), before)
	}
}

// R5.

// roomy: a list of its own, with spare room behind its end that is marked.
func roomy(s []int) []int {
	l := append(slices.Clone(s), 77, 77, 77, 77, 77)
	return l[:len(s):len(l)]
}

// spoil a list and the spare room behind its end.
func spoil(s []int, with int) {
	s = s[:cap(s)]
	for i := range s {
		s[i] = with
	}
}

// Stamps stay as they are, whatever is answered, and what is done to them later
// reaches no holder.
func TestStampsHandedIn(t *testing.T) {
	for _, s := range append(slices.Clone(goodStamps), badStamps...) {
		p := started(t, 0)
		p.must(5, 5, lease(3, 3, "a", shared, 90, 5, 5))
		for i := range 12 {
			stamp := roomy(s)
			was := slices.Clone(stamp[:cap(stamp)])
			switch i % 4 {
			case 0:
				l := lease(i/4, 4, "a", shared, 90)
				l.Stamp = stamp
				p.add(5, 5, l)
			case 1:
				p.renewed(6, 6, 3, 3, stamp, 90)
			case 2:
				p.renewed(6, 6, i/4, 4, stamp, 80)
			default:
				holder.Due(api.Lease{Stamp: stamp, Expiry: 9})
			}
			if !slices.Equal(stamp[:cap(stamp)], was) {
				t.Errorf("%v has become %v", was, stamp[:cap(stamp)])
			}
			spoil(stamp, 9)
			p.check()
			p.usesAll()
		}
	}
}

// One stamp for many: they don't share it.
func TestOneStampForMany(t *testing.T) {
	p := started(t, 0)
	stamp := roomy([]int{4, 5})
	for i := range 4 {
		l := lease(i, 1, "a", shared, 90)
		l.Stamp = stamp
		p.must(5, 5, l)
		p.renewed(6, 6, i, 1, stamp, 90)
	}
	p.renewed(6, 6, 2, 1, []int{4, 6}, 90)
	for i := range 4 {
		l, _ := p.h.Get(i, 1)
		spoil(l.Stamp, 8)
	}
	spoil(stamp, 9)
	p.check()
}

// R6.

// answers: all stamps that a holder answers just now, twice.
func answers(p *pair) [][]int {
	var all [][]int
	for range 2 {
		for _, l := range p.h.List() {
			one, _ := p.h.Get(l.From, l.Id)
			used, _ := p.h.Use(5, l.Path, l.Mode)
			all = append(all, l.Stamp, one.Stamp, used.Stamp)
		}
	}
	return all
}

// What is answered is nobody else's, its spare room neither.
func TestAnswersShareNoMemory(t *testing.T) {
	p := started(t, 0)
	var all [][]int
	for i := range 4 {
		l := lease(i, 1, goodPaths[i], exclusive, 90+i)
		l.Stamp = roomy([]int{6, 7, 8}[:1+i%3])
		p.must(5, 5, l)
		all = append(all, l.Stamp)
		all = append(all, answers(p)...)
		stamp := roomy([]int{6 + i%2, 9})
		p.renewed(6, 6, i, 1, stamp, 80)
		all = append(all, stamp)
		p.recall(i, i%2)
		all = append(all, answers(p)...)
	}
	for i, s := range all {
		spoil(s, 100+i)
	}
	for i, s := range all {
		if slices.ContainsFunc(s[:cap(s)], func(n int) bool { return n != 100+i }) {
			t.Fatalf("the list %d shares memory: %v", i, s[:cap(s)])
		}
	}
	p.check()
	p.usesAll()
}

// The lists of leases, too.
func TestListsShareNoMemory(t *testing.T) {
	p := filled(t, 5)
	var all [][]api.Lease
	for range 3 {
		all = append(all, p.h.List())
	}
	p.drop(0, 1)
	p.must(5, 5, lease(0, 9, "a", shared, 90, 1))
	for i, l := range all {
		whole := l[:cap(l)]
		for j := range whole {
			whole[j] = api.Lease{Id: 100 + i}
		}
	}
	for i, l := range all {
		if len(l) != 5 || slices.ContainsFunc(l[:cap(l)], func(x api.Lease) bool { return x.Id != 100+i }) {
			t.Errorf("the list %d shares memory: %v", i, l)
		}
	}
	p.check()
	p.usesAll()
}

// An answer stays what it was, whatever is done behind it.
func TestAnswersStay(t *testing.T) {
	dice := rand.New(rand.NewSource(179))
	for range 20 {
		p := filled(t, 6)
		list, told := p.h.List(), answers(p)
		used, _ := p.h.Use(5, "a/b", shared)
		copied, want := p.h.List(), [][]int{}
		for _, s := range told {
			want = append(want, slices.Clone(s))
		}
		again, _ := p.h.Use(5, "a/b", shared)
		for i := range 60 {
			p.step(dice, 80+i)
		}
		for i, s := range told {
			if !slices.Equal(s, want[i]) {
				t.Errorf("%v has become %v", want[i], s)
			}
		}
		if !slices.EqualFunc(list, copied, same) || !same(used, again) {
			t.Errorf("%v has become %v, or %v %v", copied, list, again, used)
		}
	}
}

// R7.

// Holders that were made apart, and such as were copied, go on apart.
func TestHoldersDoNotTouchEachOther(t *testing.T) {
	dice := rand.New(rand.NewSource(180))
	var pairs []*pair
	for i := range 2 {
		p := filled(t, 3)
		other := *p.h
		pairs = append(pairs, started(t, 100*i), p, &pair{t: t, h: &other, m: p.m.copied()})
	}
	for i := range 1200 {
		pairs[dice.Intn(len(pairs))].step(dice, i/4)
		pairs[dice.Intn(len(pairs))].check()
	}
	for _, p := range pairs {
		p.check()
		p.usesAll()
	}
}

// What one answers may be handed to another one, and they still go on apart.
func TestALeaseOfOneHandedToAnother(t *testing.T) {
	p, q := filled(t, 3), started(t, 0)
	for _, l := range p.h.List() {
		q.must(50, 50, l)
		p.renewed(60, 60, l.From, l.Id, []int{50}, 99)
		p.recall(l.From, l.Id)
	}
	for _, l := range q.h.List() {
		if l.Recalled || l.Sent != 50 || l.Stamp[0] == 50 {
			t.Errorf("the other one's is %v", l)
		}
	}
	p.check()
	q.check()
}

// What is asked is told the same each time, and nothing that is asked changes any.
func TestAskedTwiceIsToldTwice(t *testing.T) {
	p := filled(t, mostLeases)
	p.recall(5, 3)
	before := p.h.List()
	for range 5 {
		p.check()
		p.usesAll()
		p.use(100000, "a", shared)
		p.use(5, "/", 0)
		for _, l := range p.h.List() {
			holder.Due(l)
		}
	}
	if !slices.EqualFunc(p.h.List(), before, same) {
		t.Errorf("List = %v, not %v", p.h.List(), before)
	}
}
