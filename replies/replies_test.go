package replies_test

import (
	"math/rand"
	"slices"
	"testing"

	"sublet/api"
	"sublet/replies"
)

// The boots and lows at which the tests let a client stand.
var (
	boots = []int{1, 2, maxCount - 1, maxCount}
	lows  = []int{1, 2, 9, 1<<32 - 3, maxCount - 8, maxCount - 7, maxCount}
)

func TestExampleOfTheDocument(t *testing.T) {
	r := replies.New()
	first := api.Message{Kind: api.Ask, From: 1, To: 0, Boot: 1, Seq: 1, Low: 1, Verb: api.Acquire, Path: "a", Mode: api.Shared, Term: 9}
	answer := api.Message{Kind: api.Reply, From: 0, To: 1, Boot: 1, Seq: 1, Code: 60}
	wantSeen := func(m api.Message, want api.Verdict, beside api.Message) {
		t.Helper()
		if v, a := r.Seen(m); v != want || !same(a, beside) {
			t.Errorf("Seen(%v) = %d, %v, not %d, %v", m, v, a, want, beside)
		}
	}
	wantSeen(first, api.New, api.Message{})
	if !r.Keep(first, answer) {
		t.Error("Keep is false")
	}
	wantSeen(first, api.Kept, answer)
	if r.Keep(first, answer) {
		t.Error("Keep is true again")
	}
	wantSeen(ask(1, 1, 2, 2), api.New, api.Message{})
	wantSeen(first, api.Stale, api.Message{})
	wantSeen(ask(1, 2, 1, 1), api.New, api.Message{})
	wantSeen(ask(1, 1, 2, 1), api.Stale, api.Message{})
	wantSeen(ask(1, 2, 9, 1), api.Stale, api.Message{})
}

// Types.

func TestNilReplies(t *testing.T) {
	var r *replies.Replies
	for client := range 8 {
		x := ask(client, 1, 1, 1)
		for _, m := range append(append(changed(x), others(client)...), x, api.Message{}) {
			for range 2 {
				if v, a := r.Seen(m); v != stale || !same(a, api.Message{}) {
					t.Errorf("Seen(%v) = %d, %v", m, v, a)
				}
				if r.Keep(m, refusal(m, 60)) || r.Keep(m, m) || r.Keep(m, api.Message{}) {
					t.Errorf("Keep(%v, ..) is true", m)
				}
			}
		}
	}
	for _, client := range numbers {
		if n := r.Len(client); n != 0 {
			t.Errorf("Len(%d) = %d", client, n)
		}
	}
}

// checkNone holds replies that have none against what they have to tell.
func checkNone(t *testing.T, r *replies.Replies) {
	t.Helper()
	m := newModel()
	check(t, r, m)
	for client := range m {
		for _, x := range others(client) {
			seen(t, r, m, x)
		}
		advance(t, r, m, client, 1, 1, 1, 8)
		check(t, r, m)
	}
}

func TestNewRepliesHaveNone(t *testing.T) {
	if replies.New() == nil {
		t.Fatal("New answers nil")
	}
	checkNone(t, replies.New())
}

// Replies that New didn't make have none.
func TestZeroReplies(t *testing.T) { checkNone(t, &replies.Replies{}) }

// The first Ask of a client, of any boot and low, is one of a boot above its
// own.
func TestFirstAskOfEachClient(t *testing.T) {
	for client := range 8 {
		for _, boot := range boots {
			for _, low := range lows {
				for ahead := 0; ahead <= window && low+ahead <= maxCount; ahead++ {
					r, m := replies.New(), newModel()
					v, _ := seen(t, r, m, ask(client, boot, low+ahead, low))
					if (v == fresh) != (ahead < window) {
						t.Fatalf("of the client %d, %d from the low %d on: %d", client, ahead, low, v)
					}
					checkOne(t, r, m, client)
				}
			}
		}
	}
}

// P15.1.

// near: the numbers about this one that are counters, each once.
func near(n int, offsets ...int) []int {
	var all []int
	for _, o := range offsets {
		if in(n+o, 1, maxCount) {
			all = append(all, n+o)
		}
	}
	slices.Sort(all)
	return slices.Compact(all)
}

// Each client, at each boot and low, with no answer kept, one, and as many as
// may be: it is asked with boots, lows and numbers below, at and above its own.
func TestSeenAtTheEdges(t *testing.T) {
	for client := range 8 {
		for _, boot := range boots {
			low := lows[(client+boot)%len(lows)]
			for _, count := range []int{0, 1, window} {
				for _, x := range edges(client, boot, low) {
					r, m := made(t, client, boot, low, numbersFrom(low, count)...)
					seen(t, r, m, x)
					checkOne(t, r, m, client)
				}
			}
		}
	}
}

func TestSeenAtTheEdgesOfEachLow(t *testing.T) {
	for i, low := range lows {
		for _, count := range []int{0, 1, 3, window} {
			for _, x := range edges(i, 5, low) {
				r, m := made(t, i, 5, low, numbersFrom(low, count)...)
				seen(t, r, m, x)
				checkOne(t, r, m, i)
			}
		}
	}
}

// edges: what a client may ask, and what may not be, about this boot and low.
func edges(client, boot, low int) []api.Message {
	var all []api.Message
	for _, b := range append(near(boot, -1, 0, 1), 0, 1, maxCount, maxCount+1) {
		for _, l := range append(near(low, -1, 0, 1, 3, window-1, window), 0, 1) {
			for _, seq := range append(near(low, -1, 0, 1, window-1, window, window+3), 0, maxCount+1) {
				all = append(all, ask(client, b, seq, l))
			}
		}
	}
	return all
}

// What may not be an Ask is Stale, and changes nothing: neither the boot nor the
// low, nor any answer.
func TestSeenOfWhatIsNoAsk(t *testing.T) {
	acquire, renew := ask(2, 9, 12, 11), ask(2, 9, 12, 11)
	acquire.Verb, acquire.Path, acquire.Mode, acquire.Term, acquire.Id = 1, "a/b", 2, 4, 0
	renew.Verb, renew.Term, renew.Fresh = 2, maxTerm, true
	count := map[api.Verdict]int{}
	for _, base := range []api.Message{ask(2, 9, 12, 11), acquire, renew, {}} {
		for _, x := range append(append(changed(base), others(2)...), base) {
			r, m := made(t, 2, 5, 3, 3, 7, 10)
			v, _ := seen(t, r, m, x)
			if !isAsk(x) && (v != stale || m[2].boot != 5 || m[2].low != 3 || r.Len(2) != 3) {
				t.Fatalf("Seen(%v) = %d, with %d answers", x, v, r.Len(2))
			}
			count[v]++
			check(t, r, m)
		}
	}
	if count[stale] < 1000 || count[fresh] < 50 {
		t.Errorf("so many of each verdict: %v", count)
	}
}

// What the Ask wants doesn't count, nor of whom: its From, Boot and Seq say
// which request it is.
func TestKeptComesWhateverTheRequestWants(t *testing.T) {
	r, m := made(t, 3, 2, 1, 1)
	x := ask(3, 2, 1, 1)
	for to := range 8 {
		x.To = to
		for _, y := range changed(x) {
			if !isAsk(y) || y.From != 3 || y.Boot != 2 || y.Seq != 1 {
				continue
			}
			if v, a := seen(t, r, m, y); v != kept || !same(a, answerOf(ask(3, 2, 1, 1))) {
				t.Fatalf("Seen(%v) = %d, %v", y, v, a)
			}
		}
	}
}

// wantVerdicts: what is told of the numbers from this one on, with the low 1.
func wantVerdicts(t *testing.T, r *replies.Replies, client, boot, from int, want ...api.Verdict) {
	t.Helper()
	for i, w := range want {
		x := ask(client, boot, from+i, 1)
		v, a := r.Seen(x)
		if v != w || v == kept && !same(a, answerOf(x)) || v != kept && !same(a, api.Message{}) {
			t.Errorf("Seen(%v) = %d, %v, not %d", x, v, a, w)
		}
	}
}

func TestAHigherBootForgets(t *testing.T) {
	for client := range 8 {
		for _, boots := range [][2]int{{1, 2}, {1, maxCount}, {5, 7}, {maxCount - 1, maxCount}} {
			for _, low := range []int{1, 9, 800} {
				r, _ := made(t, client, boots[0], low, numbersFrom(low, window)...)
				if v, _ := r.Seen(ask(client, boots[1], 3, 1)); v != fresh || r.Len(client) != 0 {
					t.Errorf("of the boot %d: %d, with %d answers", boots[1], v, r.Len(client))
				}
				// The low is 1.
				wantVerdicts(t, r, client, boots[1], 1, fresh, fresh, fresh, fresh, fresh, fresh, fresh, fresh, stale, stale)
				wantVerdicts(t, r, client, boots[0], low, stale, stale, stale, stale, stale, stale, stale, stale, stale)
			}
		}
	}
}

// It does so too where it is Stale itself, being too far ahead.
func TestAHigherBootForgetsAlsoWhereItIsStale(t *testing.T) {
	r, _ := made(t, 4, 1, 20, 20, 27)
	if v, _ := r.Seen(ask(4, 2, 9, 1)); v != stale || r.Len(4) != 0 {
		t.Errorf("%d, with %d answers", v, r.Len(4))
	}
	wantVerdicts(t, r, 4, 2, 1, fresh, fresh, fresh, fresh, fresh, fresh, fresh, fresh, stale)
	wantVerdicts(t, r, 4, 1, 20, stale, stale)
}

// What comes late of an elder boot changes nothing, whatever its low is.
func TestAnElderBootChangesNothing(t *testing.T) {
	for _, low := range []int{1, 2, 5, 9, 1 << 30, maxCount} {
		r, _ := made(t, 0, 3, 2, 2, 4, 9)
		for _, boot := range []int{1, 2} {
			if v, _ := r.Seen(ask(0, boot, maxCount, low)); v != stale {
				t.Errorf("of the boot %d: %d", boot, v)
			}
			if r.Keep(ask(0, boot, low, low), refusal(ask(0, boot, low, low), 60)) {
				t.Error("it is kept")
			}
		}
		wantVerdicts(t, r, 0, 3, 1, stale, kept, fresh, kept, fresh, fresh, fresh, fresh, kept, stale)
	}
}

func TestAHigherLowForgetsWhatIsBelowItAndThatOnly(t *testing.T) {
	for _, low := range []int{1, 2, 9, 1 << 32, maxCount - 20} {
		for by := range window + 3 {
			r, m := made(t, 6, 1, low, numbersFrom(low, window)...)
			seen(t, r, m, ask(6, 1, low+by, low+by))
			if n := r.Len(6); n != max(window-by, 0) {
				t.Errorf("%d are kept behind %d more", n, by)
			}
			for seq := low - 1; seq <= low+by+window; seq++ {
				want := stale
				switch {
				case in(seq, low+by, low+window-1):
					want = kept
				case in(seq, low+by, low+by+window-1):
					want = fresh
				}
				wantVerdicts(t, r, 6, 1, seq, want)
			}
		}
	}
}

// A low below the one that is kept changes nothing: it comes late.
func TestALowerLowChangesNothing(t *testing.T) {
	r, m := made(t, 6, 1, 9, 9, 12)
	for low := range 10 {
		seen(t, r, m, ask(6, 1, 10, low))
		wantVerdicts(t, r, 6, 1, 8, stale, kept, fresh, fresh, kept, fresh, fresh, fresh, fresh, stale)
	}
}

// A low that is higher counts too where the number itself is too far ahead.
func TestAHigherLowCountsAlsoWhereItIsStale(t *testing.T) {
	r, m := made(t, 6, 1, 1, 1, 2, 3, 8)
	if v, _ := seen(t, r, m, ask(6, 1, 11, 3)); v != stale || r.Len(6) != 2 {
		t.Errorf("%d, with %d answers", v, r.Len(6))
	}
	wantVerdicts(t, r, 6, 1, 2, stale, kept, fresh, fresh, fresh, fresh, kept, fresh, fresh, stale)
}

// P15.2.

func TestKeepOfEachAnswer(t *testing.T) {
	for client := range 8 {
		x := ask(client, 2, 5, 1)
		answers := []api.Message{end(x, 1), end(x, maxCount)}
		for code := 1; code <= 99; code++ {
			answers = append(answers, refusal(x, code))
		}
		for _, term := range []int{4, 5, maxTerm} {
			for _, stamp := range [][]int{{1}, {maxCount}, {5, 1}, {3, 2, 1}, {1, 2, 3, maxCount}} {
				answers = append(answers, grant(x, client+1, term, stamp...))
			}
		}
		for _, a := range answers {
			r, m := replies.New(), newModel()
			if !keep(t, r, m, x, a) || r.Len(client) != 1 {
				t.Fatalf("Keep(%v, %v) is false", x, a)
			}
			if v, got := r.Seen(x); v != kept || !same(got, a) {
				t.Fatalf("Seen = %d, %v, not %v", v, got, a)
			}
			check(t, r, m)
		}
	}
}

// Each field of an answer, of each kind, at any value.
func TestKeepOfAnyAnswer(t *testing.T) {
	x := ask(3, 5, 6, 2)
	// Another Ask has all that an answer needs, but its Kind.
	asked := x
	asked.From, asked.To = x.To, x.From
	bases := append(others(4), api.Message{}, x, asked, refusal(x, 60), end(x, 7), grant(x, 7, 9, 1, 2))
	count := map[bool]int{}
	for _, base := range bases {
		for _, a := range append(changed(base), base) {
			r, m := made(t, 3, 5, 2, 4)
			count[keep(t, r, m, x, a)]++
			checkOne(t, r, m, 3)
		}
	}
	if count[true] < 60 || count[false] < 3000 {
		t.Errorf("so many are kept and not: %v", count)
	}
}

// Of the four fields by which an answer is the request's, each by itself and
// several at once are others: one below, one above, and what a mix-up would give.
func TestKeepOfAnswersToOtherRequests(t *testing.T) {
	x := ask(3, 5, 6, 2)
	changes := []func(a *api.Message, by int){
		func(a *api.Message, by int) { a.From += by },
		func(a *api.Message, by int) { a.To += by },
		func(a *api.Message, by int) { a.Boot += by },
		func(a *api.Message, by int) { a.Seq += by },
	}
	for bits := range 16 {
		for _, by := range []int{-2, -1, 1, 2} {
			a := refusal(x, 60)
			for i, change := range changes {
				if bits>>i&1 == 1 {
					change(&a, by)
				}
			}
			r, m := made(t, 3, 5, 2)
			if ok := keep(t, r, m, x, a); ok != (bits == 0) {
				t.Errorf("Keep(%v, %v) = %t", x, a, ok)
			}
			checkOne(t, r, m, 3)
		}
	}
	turned := refusal(x, 60)
	turned.From, turned.To = turned.To, turned.From
	swapped := refusal(x, 60)
	swapped.Boot, swapped.Seq = swapped.Seq, swapped.Boot
	for _, a := range []api.Message{turned, swapped} {
		if r := replies.New(); r.Keep(x, a) || r.Len(3) != 0 {
			t.Errorf("Keep(%v, %v) is true", x, a)
		}
	}
}

// A request that is no Ask, or an Ask that may not be, has no answer.
func TestKeepOfWhatIsNoAsk(t *testing.T) {
	for _, x := range append(changed(ask(2, 9, 12, 11)), others(2)...) {
		r, m := made(t, 2, 5, 3, 3, 7, 10)
		if ok := keep(t, r, m, x, answerOf(x)); ok && !isAsk(x) || !isAsk(x) && r.Len(2) != 3 {
			t.Fatalf("Keep(%v, ..) = %t, of %d answers", x, ok, r.Len(2))
		}
		check(t, r, m)
	}
}

// At each edge, Keep is true where Seen is New, and only there.
func TestKeepAtTheEdges(t *testing.T) {
	for i, low := range lows {
		for _, boot := range []int{1, 5, maxCount} {
			for _, count := range []int{0, 1, window} {
				for _, x := range edges(i, boot, low) {
					r, m := made(t, i, boot, low, numbersFrom(low, count)...)
					keep(t, r, m, x, answerOf(x))
					checkOne(t, r, m, i)
				}
			}
		}
	}
}

// What Seen changes, Keep changes too, whatever the answer is.
func TestKeepChangesWhatSeenDoes(t *testing.T) {
	for _, x := range edges(1, 5, 9) {
		for _, a := range append(others(0), api.Message{}, x, refusal(ask(1, 77, 9, 9), 60), answerOf(x)) {
			want, _ := made(t, 1, 5, 9, 9, 10, 16)
			got, m := made(t, 1, 5, 9, 9, 10, 16)
			v, _ := want.Seen(x)
			if ok := keep(t, got, m, x, a); ok && v != fresh {
				t.Fatalf("Keep(%v, %v) is true, and Seen %d", x, a, v)
			} else if !ok && got.Len(1) != want.Len(1) {
				t.Fatalf("Keep(%v, %v) leaves %d answers, Seen %d", x, a, got.Len(1), want.Len(1))
			}
			checkOne(t, got, m, 1)
		}
	}
}

// By hand: the answer is none, and still the boot, or the low, is the new one.
func TestKeepThatIsFalseChangesTheBootAndTheLow(t *testing.T) {
	for _, a := range []api.Message{{}, ask(1, 6, 3, 2), refusal(ask(1, 6, 4, 2), 60)} {
		r, _ := made(t, 1, 5, 1, 1, 3)
		if r.Keep(ask(1, 6, 3, 2), a) || r.Len(1) != 0 {
			t.Errorf("%v is kept, or the elder ones are", a)
		}
		wantVerdicts(t, r, 1, 6, 1, stale, fresh, fresh, fresh, fresh, fresh, fresh, fresh, fresh, stale)
		wantVerdicts(t, r, 1, 5, 1, stale, stale, stale)
	}
	for _, a := range []api.Message{{}, ask(1, 5, 4, 3), refusal(ask(1, 5, 5, 3), 60)} {
		r, _ := made(t, 1, 5, 1, 1, 2, 3, 8)
		if r.Keep(ask(1, 5, 4, 3), a) || r.Len(1) != 2 {
			t.Errorf("%v is kept, or others than two are", a)
		}
		wantVerdicts(t, r, 1, 5, 2, stale, kept, fresh, fresh, fresh, fresh, kept, fresh, fresh, stale)
	}
}

// The first answer stays: another one to the same request isn't kept.
func TestKeepOfWhatIsKept(t *testing.T) {
	for client := range 8 {
		r, m := made(t, client, 2, 4, numbersFrom(4, window)...)
		for seq := 4; seq < 12; seq++ {
			x := ask(client, 2, seq, 4)
			for _, a := range []api.Message{answerOf(x), refusal(x, 98), end(x, 99), grant(x, 99, 99, 99)} {
				if keep(t, r, m, x, a) {
					t.Errorf("Keep(%v, %v) is true", x, a)
				}
				if v, got := r.Seen(x); v != kept || !same(got, answerOf(x)) {
					t.Errorf("Seen(%v) = %d, %v", x, v, got)
				}
			}
		}
		check(t, r, m)
	}
}

// Of a client that asks many nodes, the answer is that of the one that was
// asked.
func TestAnAnswerIsFromTheNodeThatWasAsked(t *testing.T) {
	for client := range 8 {
		for to := range 8 {
			x := ask(client, 1, 1, 1)
			x.To = to
			r, m := replies.New(), newModel()
			keep(t, r, m, x, refusal(ask(client, 1, 1, 1), 60))
			keep(t, r, m, x, refusal(x, 61))
			check(t, r, m)
		}
	}
}

func TestLenOfAnyClient(t *testing.T) {
	r, m := replies.New(), newModel()
	for client := range 8 {
		advance(t, r, m, client, 1, 1, numbersFrom(1, client+1)...)
	}
	for _, client := range numbers {
		want := 0
		if in(client, 0, 7) {
			want = client + 1
		}
		for range 2 {
			if n := r.Len(client); n != want {
				t.Errorf("Len(%d) = %d", client, n)
			}
		}
	}
	check(t, r, m)
}

// In whichever order a client's requests come, each has its place.
func TestAnswersInEachOrder(t *testing.T) {
	dice := rand.New(rand.NewSource(154))
	for _, low := range append(lows, 3, 4, 5, 6, 7, 8) {
		for range 10 {
			seqs := numbersFrom(low, window)
			dice.Shuffle(len(seqs), func(i, j int) { seqs[i], seqs[j] = seqs[j], seqs[i] })
			r, m := made(t, 5, 1, low)
			for i, seq := range seqs {
				x := ask(5, 1, seq, low)
				if !keep(t, r, m, x, answerOf(x)) || r.Len(5) != i+1 {
					t.Fatalf("of %v, %d aren't kept, but %d", seqs, i+1, r.Len(5))
				}
				checkOne(t, r, m, 5)
			}
		}
	}
}

// P15.3.

// asker: a client as it should be. Its requests go out, and what is under way
// is delivered in any order, doubled and late.
type asker struct {
	client, boot, next, low int
	open                    []int
	under                   []api.Message
}

// goOn: the client asks once more, hears no more of a request, or begins anew.
func (c *asker) goOn(dice *rand.Rand) {
	switch n := dice.Intn(60); {
	case n == 0:
		c.boot, c.next, c.open = c.boot+1+dice.Intn(3), 1, nil
	case n < 20 && len(c.open) > 0:
		i := dice.Intn(len(c.open))
		c.open = slices.Delete(c.open, i, i+1)
	}
	c.low = c.next
	if len(c.open) > 0 {
		c.low = slices.Min(c.open)
	}
	if len(c.open) < 4 && c.next < c.low+window {
		c.open = append(c.open, c.next)
		c.next++
		c.low = slices.Min(c.open)
	}
	for _, seq := range c.open {
		if dice.Intn(2) == 0 {
			c.under = append(c.under, ask(c.client, c.boot, seq, c.low))
		}
	}
}

// deliver: any message that is under way; it may stay there.
func (c *asker) deliver(dice *rand.Rand) (api.Message, bool) {
	if len(c.under) == 0 {
		return api.Message{}, false
	}
	i := dice.Intn(len(c.under))
	x := c.under[i]
	if len(c.under) > 60 || dice.Intn(2) > 0 {
		c.under = slices.Delete(c.under, i, i+1)
	}
	return x, true
}

// request: which one it is.
type request struct{ from, boot, seq int }

// Who is told New does the request, and keeps its answer, which says how many
// were done ahead: each request is done at most once.
func TestAtMostOnce(t *testing.T) {
	dice := rand.New(rand.NewSource(155))
	r := replies.New()
	done := map[request]api.Message{}
	askers := make([]asker, 8)
	for i := range askers {
		askers[i] = asker{client: i, boot: 1, next: 1}
	}
	count := map[api.Verdict]int{}
	for range 60000 {
		c := &askers[dice.Intn(8)]
		if dice.Intn(3) == 0 {
			c.goOn(dice)
		}
		x, ok := c.deliver(dice)
		if !ok {
			continue
		}
		which := request{x.From, x.Boot, x.Seq}
		before, was := done[which]
		v, a := r.Seen(x)
		count[v]++
		switch v {
		case fresh:
			done[which] = grant(x, len(done)+1, 4, len(done)+1, x.Seq)
			if was || !same(a, api.Message{}) || !r.Keep(x, done[which]) {
				t.Fatalf("%v is told New, with %v; it was done: %t", x, a, was)
			}
		case kept:
			if !was || !same(a, before) {
				t.Fatalf("%v is told Kept, with %v, not %v", x, a, before)
			}
		default:
			// What is asked still, by the boot that asks now, is not Stale.
			if v != stale || !same(a, api.Message{}) || x.Boot == c.boot && slices.Contains(c.open, x.Seq) {
				t.Fatalf("%v is told %d, with %v", x, v, a)
			}
		}
		if n := r.Len(x.From); n > window {
			t.Fatalf("%d answers are kept", n)
		}
	}
	if count[fresh] < 2000 || count[kept] < 2000 || count[stale] < 2000 {
		t.Errorf("so many of each verdict: %v", count)
	}
}

// Any asks at all, not just those of a client as it should be, in any order: no
// request that was told New and answered is told New again.
func TestAtMostOnceOfAnyAsks(t *testing.T) {
	dice := rand.New(rand.NewSource(156))
	for range 300 {
		r := replies.New()
		done := map[request]api.Message{}
		for range 300 {
			seq := 1 + dice.Intn(30)
			x := ask(dice.Intn(2), 1+dice.Intn(3), seq, 1+dice.Intn(min(seq, 6)))
			which := request{x.From, x.Boot, x.Seq}
			before, was := done[which]
			v, a := r.Seen(x)
			if v == fresh && was || v == kept && (!was || !same(a, before)) {
				t.Fatalf("%v is told %d, with %v; it was done: %t, with %v", x, v, a, was, before)
			}
			if v == fresh {
				done[which] = refusal(x, 1+len(done)%99)
				if !r.Keep(x, done[which]) {
					t.Fatalf("the answer to %v isn't kept", x)
				}
			}
			if n := r.Len(x.From); n > window {
				t.Fatalf("%d answers are kept", n)
			}
		}
	}
}

// Who doesn't keep an answer is told New each time.
func TestNewStaysNewTillAnAnswerIsKept(t *testing.T) {
	r, m := made(t, 2, 1, 1)
	for range 5 {
		for seq := 1; seq <= window; seq++ {
			if v, _ := seen(t, r, m, ask(2, 1, seq, 1)); v != fresh {
				t.Fatalf("%d is told %d", seq, v)
			}
		}
	}
	if n := r.Len(2); n != 0 {
		t.Errorf("%d are kept", n)
	}
}

func TestAnySteps(t *testing.T) {
	dice := rand.New(rand.NewSource(157))
	for range 30 {
		r, m := replies.New(), newModel()
		for range 400 {
			step(t, dice, r, m)
			if dice.Intn(8) == 0 {
				check(t, r, m)
			}
		}
	}
}

// Whatever one client asks, to the others it is as if it hadn't.
func TestClientsDoNotTouchEachOther(t *testing.T) {
	dice := rand.New(rand.NewSource(158))
	for client := range 8 {
		r, m := replies.New(), newModel()
		for other := range 8 {
			advance(t, r, m, other, 2, 3, 3+other)
		}
		for range 300 {
			x := some(dice, m, client)
			if x.From != client {
				continue
			}
			before := *m
			if v, _ := r.Seen(x); v == fresh {
				r.Keep(x, answerOf(x))
			}
			m.keep(x, answerOf(x))
			for other := range 8 {
				if other != client && (m[other].boot != before[other].boot || r.Len(other) != 1) {
					t.Fatalf("%v has touched the client %d", x, other)
				}
			}
		}
		for other := range 8 {
			if other == client {
				continue
			}
			x := ask(other, 2, 3+other, 1)
			if v, a := r.Seen(x); v != kept || !same(a, answerOf(x)) {
				t.Errorf("to the client %d the client %d makes it %d, %v", other, client, v, a)
			}
			checkOne(t, r, m, other)
		}
	}
}

// Each client alone is told what it is told among others.
func TestEachClientIsToldWhatItWouldBeAlone(t *testing.T) {
	dice := rand.New(rand.NewSource(159))
	all, m := replies.New(), newModel()
	var alone [8]*replies.Replies
	for i := range alone {
		alone[i] = replies.New()
	}
	for range 8000 {
		x := some(dice, m, dice.Intn(8))
		if !in(x.From, 0, 7) {
			continue
		}
		v, a := all.Seen(x)
		w, b := alone[x.From].Seen(x)
		if v != w || !same(a, b) {
			t.Fatalf("Seen(%v) = %d, %v, and alone %d, %v", x, v, a, w, b)
		}
		a = answerOf(x)
		if ok := m.keep(x, a); all.Keep(x, a) != ok || alone[x.From].Keep(x, a) != ok {
			t.Fatalf("Keep(%v, %v) isn't %t", x, a, ok)
		}
		if n, k := all.Len(x.From), alone[x.From].Len(x.From); n != k {
			t.Fatalf("Len(%d) = %d, and alone %d", x.From, n, k)
		}
	}
}

// R1.

// Messages whose fields are of any value, several at once.
func TestAnyMessagesEnd(t *testing.T) {
	dice := rand.New(rand.NewSource(160))
	r, m := replies.New(), newModel()
	anyOf := func(x api.Message) api.Message {
		for range dice.Intn(4) {
			all := changed(x)
			x = all[dice.Intn(len(all))]
		}
		return x
	}
	for range 1500 {
		x := anyOf(ask(dice.Intn(8), 1+dice.Intn(3), 3, 1))
		seen(t, r, m, x)
		keep(t, r, m, x, anyOf(answerOf(x)))
		keep(t, r, m, anyOf(api.Message{}), anyOf(x))
	}
	check(t, r, m)
}

// R5 and R6.

// roomy: the same list, with room for so many more, all filled with this mark.
func roomy(list []int, room, mark int) []int {
	more := append(make([]int, 0, len(list)+room), list...)
	for i := range room {
		more[:cap(more)][len(list)+i] = mark
	}
	return more
}

// spoil: all of a list, its spare room too, becomes this number.
func spoil(list []int, n int) {
	list = list[:cap(list)]
	for i := range list {
		list[i] = n
	}
}

// holds: is all of a list, its spare room too, this number?
func holds(list []int, n int) bool {
	return !slices.ContainsFunc(list[:cap(list)], func(x int) bool { return x != n })
}

var stampLists = [][]int{{}, {7}, {7, 8}, {7, 8, 9}, {7, 8, 9, 10}}

// answerWith: an answer with just this list.
func answerWith(x api.Message, list []int) api.Message {
	a := end(x, 5)
	if a.Stamp = list; len(list) > 0 {
		a.Term = 30
	}
	return a
}

func TestWhatIsHandedInIsNeitherChangedNorKept(t *testing.T) {
	for _, list := range stampLists {
		for _, room := range []int{0, 1, 5} {
			r := replies.New()
			x := ask(2, 1, 1, 1)
			x.Stamp = roomy(nil, room, 55)
			a := answerWith(x, roomy(list, room, 66))
			want := copied(a)
			for i := range 2 {
				if r.Seen(x); r.Keep(x, a) != (i == 0) {
					t.Fatalf("Keep(%v, %v) isn't %t", x, a, i == 0)
				}
			}
			if !slices.Equal(a.Stamp, list) || !holds(a.Stamp[len(list):], 66) || !holds(x.Stamp, 55) {
				t.Fatalf("what was handed in is now %v, with %v", a.Stamp[:cap(a.Stamp)], x.Stamp[:cap(x.Stamp)])
			}
			spoil(a.Stamp, 77)
			spoil(x.Stamp, 77)
			if v, got := r.Seen(ask(2, 1, 1, 1)); v != kept || !same(got, want) {
				t.Errorf("Seen = %d, %v, not %v", v, got, want)
			} else if spoil(got.Stamp, 88); !holds(a.Stamp, 77) || !holds(x.Stamp, 77) {
				t.Error("what is answered is what was handed in")
			}
		}
	}
}

func TestAnswersShareNoMemory(t *testing.T) {
	for _, list := range stampLists {
		r := replies.New()
		x, y := ask(2, 1, 1, 1), ask(3, 1, 1, 1)
		// One list in two answers.
		shared := roomy(list, 2, 1)
		want := []api.Message{copied(answerWith(x, list)), copied(answerWith(y, list))}
		if !r.Keep(x, answerWith(x, shared)) || !r.Keep(y, answerWith(y, shared)) {
			t.Fatal("Keep is false")
		}
		var told []api.Message
		for i := range 6 {
			v, a := r.Seen([]api.Message{x, y}[i%2])
			if v != kept || !same(a, want[i%2]) {
				t.Fatalf("Seen = %d, %v, not %v", v, a, want[i%2])
			}
			spoil(a.Stamp, 100+i)
			a.Stamp = append(a.Stamp, 100+i)[:len(a.Stamp)]
			told = append(told, a)
		}
		for i, a := range told {
			if !holds(a.Stamp[:len(list):len(list)], 100+i) {
				t.Errorf("the answer %d shares memory: %v", i, a.Stamp)
			}
		}
	}
}

// An answer stays what it was, whatever is done to the replies behind it.
func TestAnswersStay(t *testing.T) {
	dice := rand.New(rand.NewSource(161))
	r, m := replies.New(), newModel()
	var told, want []api.Message
	for client := range 8 {
		advance(t, r, m, client, 1, 1, numbersFrom(1, window)...)
		for seq := 1; seq <= window; seq++ {
			_, a := r.Seen(ask(client, 1, seq, 1))
			told, want = append(told, a), append(want, copied(a))
		}
	}
	for range 3000 {
		step(t, dice, r, m)
	}
	for i, a := range told {
		if !same(a, want[i]) {
			t.Errorf("what was %v is now %v", want[i], a)
		}
	}
}

// R7.

func TestRepliesDoNotTouchEachOther(t *testing.T) {
	dice := rand.New(rand.NewSource(162))
	var all []*replies.Replies
	var models []*model
	for range 3 {
		all, models = append(all, replies.New()), append(models, newModel())
	}
	for range 900 {
		i := dice.Intn(len(all))
		step(t, dice, all[i], models[i])
		for j, r := range all {
			check(t, r, models[j])
		}
	}
}

// What two Replies are handed alike, list and all, each has by itself.
func TestTwoRepliesShareNoList(t *testing.T) {
	r, s := replies.New(), replies.New()
	x := ask(1, 1, 1, 1)
	a := grant(x, 5, 30, 7, 8)
	if !r.Keep(x, a) || !s.Keep(x, a) {
		t.Fatal("Keep is false")
	}
	_, told := r.Seen(x)
	spoil(told.Stamp, 99)
	if _, got := s.Seen(x); !same(got, grant(x, 5, 30, 7, 8)) {
		t.Errorf("the other one has %v", got)
	}
}

// Replies that are copied as a value go on apart.
func TestCopiesGoOnApart(t *testing.T) {
	r, m := made(t, 1, 1, 1, 1, 2, 3)
	other := *r
	before, n := made(t, 1, 1, 1, 1, 2, 3)
	check(t, before, n)
	advance(t, r, m, 1, 1, 3, 4, 5)
	advance(t, r, m, 4, 1, 1, 1)
	check(t, r, m)
	check(t, &other, n)
	advance(t, &other, n, 1, 9, 1, 2)
	check(t, r, m)
	check(t, &other, n)
}

// What is asked is told the same each time, and changes nothing itself.
func TestAskedTwiceIsToldTwice(t *testing.T) {
	for _, count := range []int{0, 1, 3, window} {
		for _, x := range edges(7, 5, 4) {
			r, m := made(t, 7, 5, 4, numbersFrom(4, count)...)
			v, a := r.Seen(x)
			n := r.Len(7)
			for range 3 {
				if w, b := r.Seen(x); w != v || !same(a, b) || r.Len(7) != n {
					t.Fatalf("Seen(%v) = %d, %v, and then %d, %v", x, v, a, w, b)
				}
			}
			m.seen(x)
			checkOne(t, r, m, 7)
		}
	}
}
