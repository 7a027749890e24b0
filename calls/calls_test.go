package calls_test

import (
	"math"
	"math/rand"
	"reflect"
	"slices"
	"strings"
	"testing"

	"sublet/api"
	"sublet/calls"
)

// Numbers that may and may not be, the least and the greatest among them, and
// those at which numbers of fewer bits would be taken for one another.
var (
	nows  = []int{math.MinInt, math.MinInt + 1, -1 << 32, -2, -1, 0, 1, 2, 1 << 32, maxTime - 1, maxTime, maxTime + 1, 1 << 62, math.MaxInt}
	seqs  = []int{math.MinInt, 1 - 1<<32, -1, 0, 1, 2, 3, 4, 5, 6, 7, 8, 9, 10, 257, 1<<32 + 1, maxCount, maxCount + 1, math.MaxInt}
	nodes = []int{math.MinInt, -1 << 32, -8, -1, 0, 1, 2, 3, 4, 5, 6, 7, 8, 9, 11, 12, 256, 1 << 32, math.MaxInt}
)

// four: calls that may be, as many as may be open.
func four() []api.Call {
	return []api.Call{acquire(0, "a", 1, 9), renew(1, 5, 7, true), release(2, 6), acquire(3, "b/c", 2, 20)}
}

func TestExampleOfTheDocument(t *testing.T) {
	c, e := calls.New(3)
	if e != api.OK {
		t.Fatalf("New(3) = %d", e)
	}
	x := api.Call{To: 0, Verb: api.Acquire, Path: "a", Mode: api.Shared, Term: 9}
	if seq, e := c.Open(10, x); seq != 1 || e != api.OK {
		t.Errorf("Open = %d, %d", seq, e)
	}
	want := api.Message{Kind: api.Ask, From: 2, To: 0, Boot: 3, Seq: 1, Low: 1, Verb: api.Acquire, Path: "a", Mode: api.Shared, Term: 9}
	if got, ok := c.Ask(2, 1); !ok || !reflect.DeepEqual(got, want) {
		t.Errorf("Ask(2, 1) = %v, %t", got, ok)
	}
	if got, ok := c.Again(1); !ok || got.Tries != 2 || got.Sent != 10 {
		t.Errorf("Again(1) = %v, %t", got, ok)
	}
	if got, ok := c.Close(1); !ok || got.Seq != 1 || got.Path != "a" {
		t.Errorf("Close(1) = %v, %t", got, ok)
	}
	if got, ok := c.Close(1); ok || got != (api.Call{}) {
		t.Errorf("Close(1) = %v, %t, the second time", got, ok)
	}
	if c.Low() != 2 {
		t.Errorf("Low = %d", c.Low())
	}
	if seq, e := c.Open(10, api.Call{To: 0, Verb: 4}); seq != 0 || e != api.ErrKind {
		t.Errorf("Open of the verb 4 = %d, %d", seq, e)
	}
}

func TestExampleOfTheWindow(t *testing.T) {
	c, m := opened(t, 1, four()...)
	if seq, e := open(t, c, m, 0, release(0, 1)); seq != 0 || e != api.ErrBusy {
		t.Errorf("a fifth: %d, %d", seq, e)
	}
	for seq := 2; seq <= 4; seq++ {
		end(t, c, m, seq)
	}
	for want := 5; want <= 8; want++ {
		if seq, e := open(t, c, m, 0, release(0, 1)); seq != want || e != api.OK {
			t.Errorf("Open = %d, %d, not %d", seq, e, want)
		}
		end(t, c, m, want)
	}
	if seq, e := open(t, c, m, 0, release(0, 1)); seq != 0 || e != api.ErrBusy {
		t.Errorf("the ninth: %d, %d", seq, e)
	}
	check(t, c, m)
}

// Types.

// wantNone holds each call against calls that aren't there.
func wantNone(t *testing.T, c *calls.Calls) {
	t.Helper()
	for _, now := range nows {
		for _, x := range append(four(), api.Call{}, api.Call{Verb: 4}, acquire(9, "/", 3, 0)) {
			if seq, e := c.Open(now, x); seq != 0 || e != api.ErrNil {
				t.Errorf("Open(%d, %v) = %d, %d", now, x, seq, e)
			}
		}
	}
	for _, seq := range seqs {
		for name, one := range map[string]func(int) (api.Call, bool){"Get": c.Get, "Again": c.Again, "Close": c.Close} {
			if x, ok := one(seq); ok || x != (api.Call{}) {
				t.Errorf("%s(%d) = %v, %t", name, seq, x, ok)
			}
		}
		for _, from := range nodes {
			if m, ok := c.Ask(from, seq); ok || !reflect.DeepEqual(m, api.Message{}) {
				t.Errorf("Ask(%d, %d) = %v, %t", from, seq, m, ok)
			}
		}
	}
	if c.Low() != 0 || c.Boot() != 0 || len(c.List()) != 0 {
		t.Errorf("Low %d, Boot %d, List %v", c.Low(), c.Boot(), c.List())
	}
}

// Whatever is opened, ErrNil is named ahead of what else is wrong with it.
func TestNilCalls(t *testing.T) { wantNone(t, nil) }

// Calls that New didn't make are of no boot, and so are none.
func TestZeroCalls(t *testing.T) { wantNone(t, &calls.Calls{}) }

// P14.1.

func TestNewOfAnyBoot(t *testing.T) {
	for _, c := range []struct {
		boot int
		want api.Errno
	}{{math.MinInt, api.ErrRange}, {1 - 1<<32, api.ErrRange}, {-1, api.ErrRange}, {0, api.ErrRange}, {1, api.OK}, {2, api.OK}, {1 << 32, api.OK}, {maxCount - 1, api.OK}, {maxCount, api.OK}, {maxCount + 1, api.ErrRange}, {math.MaxInt, api.ErrRange}} {
		got, e := calls.New(c.boot)
		if e != c.want || (got != nil) != (e == api.OK) {
			t.Errorf("New(%d) = %v, %d", c.boot, got, e)
		}
		if e == api.OK && (got.Boot() != c.boot || got.Low() != 1 || len(got.List()) != 0) {
			t.Errorf("New(%d): Boot %d, Low %d, List %v", c.boot, got.Boot(), got.Low(), got.List())
		}
	}
}

// What an Ask tells of the boot is it, the greatest one too.
func TestAskOfAnyBoot(t *testing.T) {
	for _, boot := range []int{1, 2, 255, 256, 1 << 32, maxCount - 1, maxCount} {
		c, m := opened(t, boot, four()...)
		check(t, c, m)
		if x, ok := c.Ask(5, 1); !ok || x.Boot != boot {
			t.Errorf("Ask of the boot %d = %v, %t", boot, x, ok)
		}
	}
}

// Low is the number that comes next, where none is open, and goes up to the
// lowest open one else, in whichever order they are closed.
func TestLowInEachOrderOfClosing(t *testing.T) {
	for _, order := range [][]int{{1, 2, 3, 4}, {4, 3, 2, 1}, {2, 1, 4, 3}, {3, 1, 2, 4}, {2, 4, 1, 3}, {1, 4, 2, 3}} {
		c, m := opened(t, 2, four()...)
		for _, seq := range order {
			end(t, c, m, seq)
			check(t, c, m)
		}
		if c.Low() != 5 || len(c.List()) != 0 {
			t.Errorf("Low = %d, List = %v, with none open", c.Low(), c.List())
		}
		open(t, c, m, 1, release(1, 1))
		if c.Low() != 5 || len(c.List()) != 1 {
			t.Errorf("Low = %d, List = %v, with 5 open", c.Low(), c.List())
		}
	}
}

// A map is gone through in another order each time: the answers stay.
func TestListRisesEachTime(t *testing.T) {
	c, m := opened(t, 2, four()...)
	for range 7 {
		end(t, c, m, m.open[1].Seq)
		open(t, c, m, 3, release(7, 3))
		if m.next-m.low() >= window {
			end(t, c, m, m.low())
		}
		for range 60 {
			check(t, c, m)
		}
	}
}

// P14.2.

func TestOpenOfAnyNow(t *testing.T) {
	for _, c := range []struct {
		now  int
		want api.Errno
	}{{math.MinInt, api.ErrRange}, {-1 << 32, api.ErrRange}, {-1, api.ErrRange}, {0, api.OK}, {1, api.OK}, {1 << 32, api.OK}, {maxTime - 1, api.OK}, {maxTime, api.OK}, {maxTime + 1, api.ErrRange}, {1 << 62, api.ErrRange}, {math.MaxInt, api.ErrRange}} {
		for _, x := range four() {
			l, m := made(t, 1)
			if seq, e := open(t, l, m, c.now, x); e != c.want || (seq == 1) != (e == api.OK) {
				t.Errorf("Open(%d, %v) = %d, %d, not %d", c.now, x, seq, e, c.want)
			}
			check(t, l, m)
			if got, ok := l.Get(1); ok && got.Sent != c.now {
				t.Errorf("Sent %d, not %d", got.Sent, c.now)
			}
		}
	}
}

// Each field of a call, with each verb: those that the verb uses have their
// bounds, and all others have to be zero.
func TestOpenOfAnyFields(t *testing.T) {
	var (
		verbs = []api.Verb{math.MinInt, -1 << 32, -1, 0, 1, 2, 3, 4, 5, 257, 1<<32 + 1, math.MaxInt}
		modes = []api.Mode{math.MinInt, -1, 0, 1, 2, 3, 258, 1<<32 + 1, math.MaxInt}
		terms = []int{math.MinInt, -4, -1, 0, 1, 3, 4, 5, maxTerm - 1, maxTerm, maxTerm + 1, 1<<32 + 4, math.MaxInt}
		ids   = []int{math.MinInt, -1, 0, 1, 2, maxCount - 1, maxCount, maxCount + 1, math.MaxInt}
		paths = []string{"", "a", "a/b", "a/b/c/d", "abcdef", "z9/0", "/", "a/", "/a", "a//b", "A", "abcdefg", "a/b/c/d/e", "a b", "a\x00", "\xff", strings.Repeat("a", 5000)}
	)
	starts := append(four(), api.Call{}, api.Call{Verb: 1, Mode: 1, Term: 4, Id: 1, Fresh: true, Path: "a"}, api.Call{Verb: 1, Fresh: true}, api.Call{Verb: 3, Id: 1, Fresh: true})
	var all []api.Call
	change := func(one func(x *api.Call)) {
		for _, x := range starts {
			one(&x)
			all = append(all, x)
		}
	}
	for _, verb := range verbs {
		change(func(x *api.Call) { x.Verb = verb })
	}
	for _, mode := range modes {
		change(func(x *api.Call) { x.Mode = mode })
	}
	for _, term := range terms {
		change(func(x *api.Call) { x.Term = term })
	}
	for _, id := range ids {
		change(func(x *api.Call) { x.Id = id })
	}
	for _, path := range paths {
		change(func(x *api.Call) { x.Path = path })
	}
	for _, to := range nodes {
		change(func(x *api.Call) { x.To = to })
	}
	change(func(x *api.Call) { x.Fresh = !x.Fresh })
	count := map[api.Errno]int{}
	for _, x := range all {
		c, m := made(t, 4)
		_, e := open(t, c, m, 6, x)
		count[e]++
		check(t, c, m)
	}
	if count[api.OK] < 60 || count[api.ErrKind] < 300 || len(count) != 2 {
		t.Errorf("so many of each error: %v", count)
	}
}

// All fields that a verb uses, and all that it doesn't, at once.
func TestOpenOfEachVerbWithFieldsUsedAndUnused(t *testing.T) {
	for verb := api.Verb(-1); verb <= 5; verb++ {
		for bits := range 32 {
			x := api.Call{To: 3, Verb: verb}
			if bits&1 > 0 {
				x.Path = "a"
			}
			if bits&2 > 0 {
				x.Mode = api.Exclusive
			}
			if bits&4 > 0 {
				x.Term = 30
			}
			if bits&8 > 0 {
				x.Id = 7
			}
			if bits&16 > 0 {
				x.Fresh = true
			}
			// Of an Acquire, the path may be empty too; of a Renew, Fresh may be false.
			may := verb == 1 && bits|1 == 7 || verb == 2 && bits|16 == 28 || verb == 3 && bits == 8
			c, m := made(t, 1)
			if _, e := open(t, c, m, 0, x); (e == api.OK) != may || !may && e != api.ErrKind {
				t.Errorf("Open(%v) = %d", x, e)
			}
			check(t, c, m)
		}
	}
}

// A call to any node may be: who asks is told only with the Ask.
func TestOpenToAnyNode(t *testing.T) {
	for _, to := range nodes {
		for _, x := range four() {
			x.To = to
			c, m := made(t, 1)
			if _, e := open(t, c, m, 0, x); (e == api.OK) != in(to, 0, 7) || e != api.OK && e != api.ErrKind {
				t.Errorf("Open to %d = %d", to, e)
			}
			check(t, c, m)
		}
	}
}

func TestWhatXHadAsSeqAndSentAndTriesDoesNotCount(t *testing.T) {
	had := []int{math.MinInt, -1, 0, 1, 2, 5, maxCount + 1, maxTime + 1, math.MaxInt}
	for _, n := range had {
		for _, x := range four() {
			y := x
			x.Seq, x.Sent, x.Tries = n, n, n
			c, m := made(t, 1)
			for want := 1; want <= 3; want++ {
				if seq, e := open(t, c, m, 8, x); seq != want || e != api.OK {
					t.Errorf("Open(%v) = %d, %d", x, seq, e)
				}
				y.Seq, y.Sent, y.Tries = want, 8, 1
				if got, ok := c.Get(want); !ok || got != y {
					t.Errorf("Get(%d) = %v, %t, not %v", want, got, ok, y)
				}
			}
			check(t, c, m)
		}
	}
}

// No, one, and as many calls as may be, and one more; and as soon as one is
// closed, one more.
func TestOpenUntilTooManyAreOpen(t *testing.T) {
	for closed := 1; closed <= 4; closed++ {
		c, m := made(t, 1)
		for i, want := range []api.Errno{api.OK, api.OK, api.OK, api.OK, api.ErrBusy, api.ErrBusy} {
			if _, e := open(t, c, m, i, release(i, 1)); e != want {
				t.Errorf("Open with %d open = %d, not %d", min(i, 4), e, want)
			}
			check(t, c, m)
		}
		end(t, c, m, closed)
		for i, want := range []int{5, 0} {
			if seq, _ := open(t, c, m, i, release(7, 1)); seq != want {
				t.Errorf("Open with %d closed = %d, not %d", closed, seq, want)
			}
			check(t, c, m)
		}
	}
}

// With call low open, wherever that is, and with others and without, the last
// number that is given out is low + 7.
func TestOpenUntilTheWindowIsOver(t *testing.T) {
	for low := 1; low <= 20; low++ {
		for others := range 3 {
			c, m := made(t, 1)
			for range low - 1 {
				seq, _ := open(t, c, m, 0, release(0, 1))
				end(t, c, m, seq)
			}
			for seq := low; seq <= low+7; seq++ {
				if got, e := open(t, c, m, 0, release(0, 1)); got != seq || e != api.OK {
					t.Fatalf("Open with %d open = %d, %d, not %d", low, got, e, seq)
				}
				if seq > low+others {
					end(t, c, m, seq)
				}
				check(t, c, m)
			}
			for range 2 {
				if got, e := open(t, c, m, 0, release(0, 1)); got != 0 || e != api.ErrBusy {
					t.Fatalf("Open of %d with %d open = %d, %d", low+8, low, got, e)
				}
			}
			end(t, c, m, low)
			check(t, c, m)
			if others > 0 { // the next one is the lowest now, and one number more is free
				if got, e := open(t, c, m, 0, release(0, 1)); got != low+8 || e != api.OK {
					t.Fatalf("Open with %d closed = %d, %d", low, got, e)
				}
				end(t, c, m, low+8)
				if got, e := open(t, c, m, 0, release(0, 1)); got != 0 || e != api.ErrBusy {
					t.Fatalf("Open of %d with %d open = %d, %d", low+9, low+1, got, e)
				}
			}
			check(t, c, m)
		}
	}
}

// A time that may not be is named ahead of an Ask that may not be, and that
// ahead of calls that are too many.
func TestOpenNamesTheFirstError(t *testing.T) {
	full := func() (*calls.Calls, *model) { return opened(t, 1, four()...) }
	over := func() (*calls.Calls, *model) {
		c, m := opened(t, 1, four()...)
		for seq := 2; seq <= 8; seq++ {
			if seq > 4 {
				open(t, c, m, 0, release(0, 1))
			}
			end(t, c, m, seq)
		}
		return c, m
	}
	for name, of := range map[string]func() (*calls.Calls, *model){"full": full, "over": over, "empty": func() (*calls.Calls, *model) { return made(t, 1) }} {
		busy := api.ErrBusy
		if name == "empty" {
			busy = api.OK
		}
		for _, d := range []struct {
			now  int
			x    api.Call
			want api.Errno
		}{
			{-1, release(0, 0), api.ErrRange},
			{-1, release(0, 1), api.ErrRange},
			{maxTime + 1, api.Call{}, api.ErrRange},
			{maxTime + 1, release(0, 1), api.ErrRange},
			{0, release(0, 0), api.ErrKind},
			{maxTime, release(8, 1), api.ErrKind},
			{0, release(0, 1), busy},
			{maxTime, release(7, maxCount), busy},
		} {
			c, m := of()
			before := c.List()
			seq, e := open(t, c, m, d.now, d.x)
			if e != d.want || (seq != 0) != (e == api.OK) {
				t.Errorf("%s: Open(%d, %v) = %d, %d, not %d", name, d.now, d.x, seq, e, d.want)
			}
			if e != api.OK && !slices.Equal(c.List(), before) {
				t.Errorf("%s: Open(%d, %v) was refused, and %v is %v now", name, d.now, d.x, before, c.List())
			}
			check(t, c, m)
		}
	}
}

// P14.3.

func TestGetAndAgainAndCloseOfWhatIsOpen(t *testing.T) {
	for seq, x := range four() {
		seq++
		x.Seq, x.Sent = seq, 10*(seq-1)
		c, m := opened(t, 1, four()...)
		for tries := 1; tries <= 12; tries++ {
			x.Tries = tries
			for range 2 {
				if got, ok := c.Get(seq); !ok || got != x {
					t.Errorf("Get(%d) = %v, %t, not %v", seq, got, ok, x)
				}
			}
			again(t, c, m, seq)
			check(t, c, m)
		}
		x.Tries = 13
		if got, ok := c.Close(seq); !ok || got != x {
			t.Errorf("Close(%d) = %v, %t, not %v", seq, got, ok, x)
		}
		m.end(seq)
		check(t, c, m)
	}
}

// What isn't open, or never was, is nothing, and is left alone.
func TestGetAndAgainAndCloseOfWhatIsNotOpen(t *testing.T) {
	for closed := range 5 {
		c, m := opened(t, 1, four()...)
		for seq := 1; seq <= closed; seq++ {
			end(t, c, m, seq)
		}
		for _, seq := range seqs {
			if _, there := m.get(seq); there {
				continue
			}
			for name, one := range map[string]func(int) (api.Call, bool){"Get": c.Get, "Again": c.Again, "Close": c.Close} {
				if x, ok := one(seq); ok || x != (api.Call{}) {
					t.Errorf("%s(%d) = %v, %t", name, seq, x, ok)
				}
				check(t, c, m)
			}
			for _, from := range nodes {
				checkAsk(t, c, m, from, seq)
			}
		}
		if seq, e := open(t, c, m, 1, release(0, 1)); closed > 0 && (seq != 5 || e != api.OK) {
			t.Errorf("the number that comes next is %d, %d", seq, e)
		}
	}
}

// P14.4.

func TestAskFromAnyNode(t *testing.T) {
	for to := range 8 {
		for _, x := range four() {
			x.To = to
			c, m := opened(t, 5, x)
			for _, from := range nodes {
				got, ok := c.Ask(from, 1)
				if ok != (in(from, 0, 7) && from != to) {
					t.Errorf("Ask from %d to %d: %t", from, to, ok)
				}
				if !ok && !reflect.DeepEqual(got, api.Message{}) {
					t.Errorf("Ask from %d to %d = %v", from, to, got)
				}
				checkAsk(t, c, m, from, 1)
				check(t, c, m)
			}
		}
	}
}

func TestAskOfEachVerb(t *testing.T) {
	c, _ := opened(t, 9, acquire(0, "a/b", 2, 300), renew(1, 5, 7, true), renew(2, 6, 8, false), release(3, 4))
	for seq, want := range []api.Message{
		{Kind: api.Ask, From: 4, To: 0, Boot: 9, Seq: 1, Low: 1, Verb: api.Acquire, Path: "a/b", Mode: api.Exclusive, Term: 300},
		{Kind: api.Ask, From: 4, To: 1, Boot: 9, Seq: 2, Low: 1, Verb: api.Renew, Id: 5, Term: 7, Fresh: true},
		{Kind: api.Ask, From: 4, To: 2, Boot: 9, Seq: 3, Low: 1, Verb: api.Renew, Id: 6, Term: 8},
		{Kind: api.Ask, From: 4, To: 3, Boot: 9, Seq: 4, Low: 1, Verb: api.Release, Id: 4},
	} {
		if got, ok := c.Ask(4, seq+1); !ok || !reflect.DeepEqual(got, want) {
			t.Errorf("Ask(4, %d) = %v, %t, not %v", seq+1, got, ok, want)
		}
	}
}

// Low is as it is at that moment, and how often it was sent doesn't count.
func TestAskTellsLowAsItIs(t *testing.T) {
	c, m := opened(t, 1, four()...)
	for _, d := range []struct{ close, low int }{{3, 1}, {1, 2}, {2, 4}} {
		again(t, c, m, 4)
		end(t, c, m, d.close)
		if got, ok := c.Ask(7, 4); !ok || got.Low != d.low || got.Seq != 4 {
			t.Errorf("Ask(7, 4) = %v, %t, not with Low %d", got, ok, d.low)
		}
		check(t, c, m)
	}
}

// P14.5.

func TestAnySteps(t *testing.T) {
	dice := rand.New(rand.NewSource(149))
	for boot := 1; boot <= 40; boot++ {
		c, m := made(t, boot)
		for range 500 {
			step(t, dice, c, m)
			check(t, c, m)
			for _, x := range c.List() {
				if !in(x.Seq, c.Low(), c.Low()+window-1) {
					t.Fatalf("%d is open, with Low %d", x.Seq, c.Low())
				}
			}
		}
	}
}

func TestNoSeqIsGivenOutTwice(t *testing.T) {
	dice := rand.New(rand.NewSource(150))
	c, m := made(t, 1)
	last := 0
	for range 20000 {
		seq, e := open(t, c, m, 1, some(dice))
		if e == api.OK {
			if seq != last+1 {
				t.Fatalf("%d comes behind %d", seq, last)
			}
			last = seq
		}
		for _, x := range c.List() {
			if dice.Intn(4) == 0 {
				end(t, c, m, x.Seq)
			}
		}
	}
	if last < 5000 {
		t.Errorf("just %d were given out", last)
	}
}

// R4.

func TestRefusedCallsChangeNothing(t *testing.T) {
	dice := rand.New(rand.NewSource(151))
	c, m := made(t, 1)
	for range 3000 {
		before, low := c.List(), c.Low()
		x := some(dice)
		x.To = nodes[dice.Intn(len(nodes))]
		if _, e := open(t, c, m, nows[dice.Intn(len(nows))], x); e != api.OK && (!slices.Equal(c.List(), before) || c.Low() != low) {
			t.Fatalf("Open(%v) = %d, and %v is %v now", x, e, before, c.List())
		}
		check(t, c, m)
		if dice.Intn(3) == 0 {
			end(t, c, m, c.Low())
		}
	}
}

// R5 and R6.

// spoil: all of a list, its spare room too, becomes this call.
func spoil(list []api.Call, x api.Call) {
	list = list[:cap(list)]
	for i := range list {
		list[i] = x
	}
}

func TestAnsweredListsShareNoMemory(t *testing.T) {
	for count := range 5 {
		c, m := opened(t, 1, four()[:count]...)
		first, second := c.List(), c.List()
		spoil(first, release(6, 777))
		check(t, c, m)
		spoil(second, release(6, 888))
		check(t, c, m)
		for _, x := range first[:cap(first)] {
			if x != release(6, 777) {
				t.Errorf("two lists of %d share memory", count)
			}
		}
		_ = append(first, release(6, 999))
		check(t, c, m)
	}
}

// What is answered for a call, and the call that was handed in, aren't the one
// that is open; a message's list is no other's.
func TestAnsweredCallsAndMessagesShareNoMemory(t *testing.T) {
	x := acquire(1, "a", 1, 9)
	c, m := opened(t, 1, x)
	x.Path, x.Tries = "b", 9
	check(t, c, m)
	for _, one := range []func(int) (api.Call, bool){c.Get, c.Again} {
		y, _ := one(1)
		y.Path, y.Tries, y.Sent = "c", 99, 99
		if z, _ := c.Get(1); z.Path != "a" || z.Tries > 2 || z.Sent != 0 {
			t.Errorf("what is open has become %v", z)
		}
	}
	m.again(1)
	p, _ := c.Ask(2, 1)
	if cap(p.Stamp) > 0 {
		t.Errorf("an Ask has a Stamp with room for %d", cap(p.Stamp))
	}
	p.Path, p.Seq, p.Stamp = "d", 5, append(p.Stamp, 1)
	check(t, c, m)
}

// An answer stays what it was, whatever is done to the calls behind it.
func TestAnswersStay(t *testing.T) {
	dice := rand.New(rand.NewSource(152))
	for count := range 5 {
		c, m := opened(t, 1, four()[:count]...)
		list, want := c.List(), slices.Clone(m.open)
		for range 300 {
			step(t, dice, c, m)
		}
		if !slices.Equal(list, want) {
			t.Errorf("what List answered is now %v, not %v", list, want)
		}
	}
}

// R7.

func TestCallsDoNotTouchEachOther(t *testing.T) {
	dice := rand.New(rand.NewSource(153))
	var all []*calls.Calls
	var models []*model
	for _, boot := range []int{1, 1, 2, 77} {
		c, m := made(t, boot)
		all, models = append(all, c), append(models, m)
	}
	for range 3000 {
		i := dice.Intn(len(all))
		step(t, dice, all[i], models[i])
		for j, c := range all {
			check(t, c, models[j])
		}
	}
}

// What is asked is told the same each time, and changes nothing itself.
func TestAskedTwiceIsToldTwice(t *testing.T) {
	for count := range 5 {
		c, m := opened(t, 1, four()[:count]...)
		for range 3 {
			for _, seq := range seqs {
				checkGet(t, c, m, seq)
				for _, from := range nodes {
					checkAsk(t, c, m, from, seq)
				}
			}
			check(t, c, m)
		}
	}
}
