package grantor_test

import (
	"math/rand"
	"slices"
	"testing"

	"sublet/api"
	"sublet/book"
	"sublet/grantor"
	"sublet/ledger"
)

// What is promised whatever is called is held against all that is told behind
// each step of the model's: see apart, check, checkPromises and nests.

// P16.6.

// Whatever is called, with whatever times, though they go back.
func TestAnyCallsAtAnyTimes(t *testing.T) {
	dice := rand.New(rand.NewSource(165))
	for _, from := range []int{0, 1 << 40, mostTime - 50} {
		most := 0
		for range 12 {
			p := started(t)
			for range 250 {
				p.step(dice, from+dice.Intn(50))
				most = max(most, len(p.g.List()))
				if dice.Intn(60) == 0 {
					p.again(from + dice.Intn(50))
				}
			}
		}
		if most != mostHeld {
			t.Errorf("there were %d grants at most", most)
		}
	}
}

// Without a clock that goes on, more are held at one time than granted later.
func TestTimesThatGoBack(t *testing.T) {
	p := started(t)
	p.must(p.grant(100, root, 1, "a", exclusive, 10))
	// It is over now, and it ends, so that it isn't there at 5 either.
	p.must(p.grant(110, root, 2, "a", exclusive, 10))
	p.fails(api.ErrHeld)(p.grant(5, root, 1, "a", exclusive, 10))
	p.fails(api.ErrUnknown)(p.renew(5, root, 1, 1, 10, false))
	// What isn't over at 5 is there at 5, though it was over once.
	p.must(p.grant(119, root, 3, "b", exclusive, 10))
	p.fails(api.ErrHeld)(p.grant(5, root, 1, "a", shared, 10))
	p.must(p.grant(120, root, 1, "a", exclusive, 10))
	p.fails(api.ErrHeld)(p.grant(0, root, 2, "", shared, 10))
}

// How often the grantor is opened again, and whenever.
func TestOpenedAgainAndAgain(t *testing.T) {
	dice := rand.New(rand.NewSource(166))
	for range 12 {
		p, now := started(t), 0
		for range 60 {
			for range dice.Intn(4) {
				p.step(dice, now)
			}
			now = max(0, now+dice.Intn(60)-15)
			if dice.Intn(2) == 0 {
				p.open(now)
			} else {
				p.again(now)
			}
			if q := p.g.Quarantine(); q > 0 {
				p.fails(api.ErrQuarantine)(p.grant(q-1, root, 1, "a", shared, 9))
				now = q - dice.Intn(3)/2
			}
		}
	}
}

// A grant that came into the ledger by another hand stands as well, till it ends.
func TestGrantsByAnotherHand(t *testing.T) {
	l, e := ledger.Open(started(t).d)
	if e != api.OK {
		t.Fatalf("ledger.Open: %d", e)
	}
	first, _ := grantor.Open(l, 0)
	second, _ := grantor.Open(l, 0)
	if _, e := first.Grant(1, root, 1, "a", exclusive, 10); e != api.OK {
		t.Fatalf("Grant: %d", e)
	}
	for _, now := range []int{1, 10, 11, mostTime} {
		if x, e := second.Grant(now, root, 2, "a/b", shared, 10); e != api.ErrHeld {
			t.Errorf("the other one, at %d: %v, %d", now, x, e)
		}
	}
	if ok, e := second.End(1, 1); !ok || e != api.OK || len(first.List()) != 0 {
		t.Errorf("End: %t, %d", ok, e)
	}
	if x, e := second.Grant(1, root, 2, "a/b", shared, 10); e != api.OK || x.Id != 2 {
		t.Errorf("Grant: %v, %d", x, e)
	}
	if x, e := first.Grant(1, root, 1, "a", exclusive, 10); e != api.ErrHeld {
		t.Errorf("Grant: %v, %d", x, e)
	}
}

// P16.7.

// As time goes on, and the power fails, and the node begins anew.
func TestAnyCallsAsTimeGoesOn(t *testing.T) {
	dice := rand.New(rand.NewSource(167))
	cuts := 0
	for range 25 {
		p, now := started(t), dice.Intn(3)
		for range 250 {
			now += dice.Intn(3)
			if dice.Intn(8) == 0 {
				p.arm(dice.Intn(6))
			}
			p.step(dice, now)
			off := p.d.Off()
			if off && dice.Intn(3) > 0 || dice.Intn(80) == 0 {
				now += dice.Intn(20)
				p.again(now)
			}
			if off {
				cuts++
			}
		}
	}
	if cuts < 100 {
		t.Errorf("the power failed %d times", cuts)
	}
}

// Each call, with the power failing at each write: opened again, there is what was
// there ahead of it, or what is there behind it, and each grant runs on.
func TestCutsAtEachWrite(t *testing.T) {
	calls := []func(p *pair) api.Errno{
		func(p *pair) api.Errno { _, e := p.grant(30, deep, 3, longPath, exclusive, 90); return e },
		func(p *pair) api.Errno { _, e := p.grant(30, root, 1, "a", shared, 5); return e },
		func(p *pair) api.Errno { _, e := p.renew(29, deep, 2, 7, 90, true); return e },
		func(p *pair) api.Errno { _, e := p.renew(29, root, 2, 7, 90, false); return e },
		func(p *pair) api.Errno { _, e := p.end(1, 1); return e },
		func(p *pair) api.Errno { _, e := p.done(3, 1, 0, 9); return e },
	}
	for _, call := range calls {
		// Near its end, an area is full, and the records go to the other one.
		for boots := range 20 {
			for writes := 0; ; writes++ {
				p := opened(t, 0, slices.Repeat([]api.Rec{boot}, boots)...)
				p.must(p.grant(0, deep, 1, "a", shared, 20))
				p.must(p.grant(0, deep, 7, longPath, shared, 30))
				p.must(p.grant(0, root, 1, "b", exclusive, 30))
				p.mark(3, 0, 9)
				p.arm(writes)
				e := call(p)
				p.again(31)
				for _, h := range p.g.List() {
					p.fails(api.ErrQuarantine)(p.grant(h.Expiry-1, root, 0, "x", shared, 9))
				}
				p.must(p.grant(p.g.Quarantine(), root, 0, "x", shared, 9))
				if e == api.OK {
					break
				}
			}
		}
	}
}

// What the quarantine is for: a renewal leaves no trace on the disk, if it isn't
// longer than others.
func TestQuarantineOutlastsRenewals(t *testing.T) {
	p := started(t)
	p.must(p.grant(0, root, 1, "a", exclusive, 50))
	for now := 10; now <= 400; now += 30 {
		p.must(p.renew(now, root, 1, 1, 50, false))
	}
	if p.d.Writes() != 2 {
		t.Errorf("%d writes", p.d.Writes())
	}
	p.again(410)
	if h, _ := p.g.Held(1); h.Expiry < 450 {
		t.Errorf("it was promised till 450, and is held till %d", h.Expiry)
	}
	p.fails(api.ErrQuarantine)(p.grant(449, root, 2, "a", shared, 9))
	p.fails(api.ErrQuarantine)(p.grant(459, root, 2, "b", shared, 9))
	p.must(p.grant(460, root, 2, "a", shared, 9))
}

// A term that was promised to another one, which has ended, counts too: who knows
// that it was only he.
func TestQuarantineGoesByTheLongestTerm(t *testing.T) {
	p := started(t)
	p.must(p.grant(0, root, 1, "a", exclusive, 500))
	p.end(1, 1)
	p.must(p.grant(0, root, 2, "b", exclusive, 4))
	p.again(1)
	if h, _ := p.g.Held(2); h.Expiry != 501 || p.g.Quarantine() != 501 {
		t.Errorf("%v, and the quarantine ends at %d", h, p.g.Quarantine())
	}
}

// P16.8.

// A tree of grantors, each granting under the lease that the one above gave: each
// expiry is Guard ahead, each stamp a counter deeper, and there are four.
func TestGrantsNest(t *testing.T) {
	own := grantor.Root()
	for depth := 1; depth <= mostDepth; depth++ {
		p := opened(t, 0, counter(10*depth))
		x := p.must(p.grant(9, own, 1, "a", exclusive, 100-2*depth))
		h, _ := p.g.Held(x.Id)
		if len(x.Stamp) != depth || h.Expiry != 109-2*depth {
			t.Errorf("%d deep: %v", depth, h)
		}
		p.must(p.renew(9, own, x.Id, 1, 100-2*depth, true))
		if depth > 1 {
			p.fails(api.ErrOutlast)(p.grant(9, own, 1, "a", exclusive, 101-2*depth))
		}
		own = api.Lease{From: 1, Id: x.Id, Path: x.Path, Mode: x.Mode, Stamp: x.Stamp, Expiry: h.Expiry}
	}
	p := started(t)
	p.fails(api.ErrTooDeep)(p.grant(9, own, 1, "a", exclusive, 4))
}

// No counter is given out twice, whenever the power fails.
func TestCountersOverCuts(t *testing.T) {
	dice := rand.New(rand.NewSource(168))
	for range 20 {
		p, now := started(t), 0
		for range 60 {
			p.arm(dice.Intn(9))
			x, e := p.grant(now, deep, 1, longPath, shared, 4)
			if e == api.OK {
				_, e = p.renew(now, root, x.Id, 1, 4, true)
			}
			if e == api.ErrPower {
				p.again(now)
			}
			now += 4
		}
		if next := p.l.Book().Next; len(p.given) < 30 || len(p.given) > next-1 {
			t.Errorf("%d were given out, and Next is %d", len(p.given), next)
		}
	}
}

// A grant that ended, however it did, isn't there when it is opened again.
func TestWhatIsOverStaysSo(t *testing.T) {
	p := started(t)
	p.must(p.grant(0, root, 1, "a", exclusive, 10))
	p.must(p.grant(0, root, 1, "b", exclusive, 20))
	p.must(p.grant(0, root, 1, "c", exclusive, 30))
	p.mark(2, 0, 1)
	p.done(2, 1, 0, 1)
	p.must(p.grant(10, root, 2, "a", exclusive, 10))
	p.end(3, 1)
	for range 3 {
		p.again(11)
		p.fails(api.ErrUnknown)(p.renew(11, root, 1, 1, 9, false))
		if l := p.g.List(); len(l) != 1 || l[0].Grant.Id != 4 {
			t.Errorf("List = %v", l)
		}
	}
	if !book.Same(p.l.Book(), p.m.ledger.Book()) {
		t.Errorf("%v", p.l.Book())
	}
}
