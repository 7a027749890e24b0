package grantor_test

import (
	"bytes"
	"math/rand"
	"reflect"
	"slices"
	"strings"
	"testing"

	"sublet/api"
	"sublet/grantor"
)

// R1.

// Any numbers, texts and lists: nothing panics, and what is told is what is to be.
func TestCallsOfAnySize(t *testing.T) {
	p := opened(t, 0, threeGrants(10)...)
	p.mark(3, 0, 5)
	long := strings.Repeat("a", 1<<16)
	for _, n := range numbers {
		for _, own := range []api.Lease{root, {}, lease(long, api.Mode(n), n, n), {From: n, Id: n, Mode: 2, Stamp: make([]int, 1<<12), Term: n, Sent: n, Expiry: n}} {
			for _, path := range []string{"a", long, "\x00"} {
				p.grant(n, own, 1, path, 1, 9)
				p.grant(1, own, n, path, 1, 9)
				p.grant(1, own, 1, path, api.Mode(n), 9)
				p.grant(1, own, 1, path, 1, n)
				p.grant(n, own, n, path, api.Mode(n), n)
				p.asks(n, path, api.Mode(n))
				grantor.Bears(own, n, path, api.Mode(n))
			}
			p.renew(n, own, 2, 1, 9, true)
			p.renew(1, own, n, 1, 9, true)
			p.renew(1, own, 2, n, 9, false)
			p.renew(1, own, 2, 1, n, false)
			p.renew(n, own, n, n, n, true)
		}
		p.checkHeld(n)
		p.mark(n, n, n)
		p.done(n, n, n, n)
		p.done(3, n, n, n)
		p.end(n, n)
	}
}

// An empty list and none are one stamp.
func TestEmptyStampsAreNone(t *testing.T) {
	p := started(t)
	own := root
	own.Stamp = []int{}
	if x := p.must(p.grant(1, own, 1, "a", shared, 9)); !slices.Equal(x.Stamp, []int{1}) {
		t.Errorf("%v", x)
	}
	if x := p.must(p.renew(1, own, 1, 1, 9, true)); !slices.Equal(x.Stamp, []int{2}) {
		t.Errorf("%v", x)
	}
}

// R4.

// What was refused is told by no later call, and writes nothing.
func TestRefusedCallsLeaveNothing(t *testing.T) {
	dice := rand.New(rand.NewSource(169))
	for range 6 {
		plain, pestered := started(t), started(t)
		for i := range 120 {
			now := i / 2
			for range 3 {
				writes := pestered.d.Writes()
				pester(pestered, dice, now)
				if pestered.d.Writes() != writes {
					t.Fatal("a refusal writes")
				}
			}
			seed := dice.Int63()
			plain.step(rand.New(rand.NewSource(seed)), now)
			pestered.step(rand.New(rand.NewSource(seed)), now)
			if !slices.EqualFunc(plain.d.Image(), pestered.d.Image(), bytes.Equal) || !slices.EqualFunc(plain.g.List(), pestered.g.List(), sameHeld) {
				t.Fatal("behind refused calls it is another one")
			}
		}
	}
}

// pester: a call that is refused, or answered false.
func pester(p *pair, dice *rand.Rand, now int) {
	p.t.Helper()
	id, holder := 1+dice.Intn(6), dice.Intn(3)
	if h, ok := p.g.Held(id); ok {
		holder = h.Grant.Holder
	}
	switch dice.Intn(9) {
	case 0:
		p.grant(now, api.Lease{}, holder, "a", 1, 9)
	case 1:
		p.grant(now, lease("", 2, now+90), holder, "a", 1, 89)
	case 2:
		p.grant(now, root, holder, "a", 1, 3)
	case 3:
		p.grant(now, lease("", 2, forever, 1, 2, 3, 4), holder, "a", 1, mostTerm)
	case 4:
		p.renew(now, lease("", 2, now+90), id, holder, 89, true)
	case 5:
		p.renew(now, root, id, holder+1, mostTerm, true)
	case 6:
		p.end(id, holder+1)
	case 7:
		p.mark(id, 8, 1)
	default:
		p.done(id, holder, 3, 99)
	}
}

// R5.

// roomy: a list of its own, with spare room behind its end that is marked.
func roomy(s []int) []int {
	l := append(slices.Clone(s), 77, 77, 77, 77, 77)
	return l[:len(s):len(l)]
}

// spoil a list and the spare room behind its end.
func spoil(s []int) {
	s = s[:cap(s)]
	for i := range s {
		s[i] = -9
	}
}

// A lease stays as it is, whatever is answered, and what is done to it later
// reaches no grantor.
func TestLeasesHandedIn(t *testing.T) {
	for _, s := range append(slices.Clone(stampsOf), noStamps...) {
		p := started(t)
		for i := range 6 {
			own := lease("", exclusive, forever-i, roomy(s)...)
			own.Stamp = roomy(s)
			was := slices.Clone(own.Stamp[:cap(own.Stamp)])
			switch i % 3 {
			case 0:
				p.grant(i, own, 1, "a", shared, 9)
			case 1:
				p.renew(i, own, 1, 1, 20, i == 1)
			default:
				grantor.Bears(own, i, "a", shared)
			}
			if !slices.Equal(own.Stamp[:cap(own.Stamp)], was) || own.Expiry != forever-i || own.Path != "" {
				t.Errorf("the lease has become %v", own)
			}
			spoil(own.Stamp)
			p.check()
		}
		p.again(30)
	}
}

// R6.

// answers: all lists that a grantor answers just now.
func answers(p *pair) [][]int {
	var all [][]int
	for range 2 {
		for _, l := range [][]api.Held{p.g.List(), p.g.Under(0, ""), p.g.Under(0, "a")} {
			for _, h := range l {
				all = append(all, h.Grant.Stamp)
				one, _ := p.g.Held(h.Grant.Id)
				all = append(all, one.Grant.Stamp)
			}
		}
	}
	return all
}

// What is answered is nobody else's, its spare room neither.
func TestAnswersShareNoMemory(t *testing.T) {
	p := started(t)
	var all [][]int
	own := lease("", exclusive, forever, roomy([]int{6, 7})...)
	for i := range 3 {
		x := p.must(p.grant(1, own, 1, "a/b", shared, 9))
		y := p.must(p.renew(1, own, x.Id, 1, 9+i, i == 1))
		z := p.must(p.renew(1, own, x.Id, 1, 9+i, false))
		all = append(all, x.Stamp, y.Stamp, z.Stamp)
		all = append(all, answers(p)...)
	}
	all = append(all, own.Stamp)
	for i, s := range all {
		whole := s[:cap(s)]
		for j := range whole {
			whole[j] = 100 + i
		}
	}
	for i, s := range all {
		if slices.ContainsFunc(s[:cap(s)], func(n int) bool { return n != 100+i }) {
			t.Fatalf("the list %d shares memory: %v", i, s[:cap(s)])
		}
	}
	p.check()
	p.asksAll()
	p.again(9)
}

// The lists of grants, too.
func TestListsShareNoMemory(t *testing.T) {
	p := started(t)
	for range 5 {
		p.must(p.grant(1, root, 1, "a", shared, 9))
	}
	var all [][]api.Held
	for range 3 {
		all = append(all, p.g.List(), p.g.Under(1, ""), p.g.Under(1, "a"))
	}
	for i, l := range all {
		whole := l[:cap(l)]
		for j := range whole {
			whole[j] = api.Held{Expiry: 100 + i}
		}
	}
	for i, l := range all {
		if len(l) != 5 || slices.ContainsFunc(l[:cap(l)], func(h api.Held) bool { return h.Expiry != 100+i }) {
			t.Errorf("the list %d shares memory: %v", i, l)
		}
	}
	p.check()
	p.asksAll()
}

// An answer stays what it was, whatever is done behind it.
func TestAnswersStay(t *testing.T) {
	dice := rand.New(rand.NewSource(170))
	p := opened(t, 0, threeGrants(10)...)
	told, want := answers(p), [][]int{}
	for _, s := range told {
		want = append(want, slices.Clone(s))
	}
	list := p.g.List()
	copied := slices.Clone(list)
	for i := range 200 {
		p.step(dice, i)
	}
	for i, s := range told {
		if !slices.Equal(s, want[i]) {
			t.Errorf("%v has become %v", want[i], s)
		}
	}
	if !reflect.DeepEqual(list, copied) {
		t.Errorf("%v has become %v", copied, list)
	}
}

// R7.

// Grantors on disks of their own go on apart.
func TestGrantorsDoNotTouchEachOther(t *testing.T) {
	dice := rand.New(rand.NewSource(171))
	var pairs []*pair
	for range 2 {
		pairs = append(pairs, started(t), opened(t, 3, threeGrants(10)...))
	}
	for i := range 600 {
		p := pairs[dice.Intn(len(pairs))]
		if dice.Intn(30) == 0 {
			p.again(i / 4)
		} else {
			p.step(dice, i/4)
		}
		pairs[dice.Intn(len(pairs))].check()
	}
	for _, p := range pairs {
		p.check()
	}
}

// What is asked is told the same each time, and writes nothing.
func TestAskedTwiceIsToldTwice(t *testing.T) {
	p := opened(t, 0, threeGrants(10)...)
	p.mark(3, 0, 5)
	p.arm(0)
	for range 5 {
		p.check()
		p.asksAll()
	}
	if p.d.Off() {
		t.Error("something was written")
	}
}
