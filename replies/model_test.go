package replies_test

import (
	"math"
	"math/rand"
	"reflect"
	"regexp"
	"slices"
	"strings"
	"testing"

	"sublet/api"
	"sublet/replies"
)

// The limits, as the document has them.
const (
	maxCount = 1 << 40
	maxTerm  = 1 << 20
	window   = 8
)

// The verdicts, as the document numbers them.
const (
	stale api.Verdict = 1
	kept  api.Verdict = 2
	fresh api.Verdict = 3
)

// Numbers that may and may not be, the least and the greatest among them, and
// those at which numbers of fewer bits would be taken for one another.
var numbers = []int{
	math.MinInt, math.MinInt + 1, -1 << 32, 1 - 1<<32, -8, -2, -1, 0, 1, 2, 3, 4, 5, 6, 7, 8, 9, 11, 12, 59, 60, 98, 99, 100,
	255, 256, 257, 1<<20 - 1, 1 << 20, 1<<20 + 1, 1 << 32, 1<<32 + 1, maxCount - 1, maxCount, maxCount + 1, 1 << 62, math.MaxInt - 1, math.MaxInt,
}

var (
	texts  = []string{"", "a", "a/b", "a/b/c/d", "abcdef", "/", "a//b", "A", "abcdefg", "a/b/c/d/e", "\xff", strings.Repeat("a", 5000)}
	stamps = [][]int{nil, {}, {1}, {0}, {-1}, {5, 1}, {1, 2, 3, 4}, {1, 2, 3, 4, 5}, {1, 0}, {maxCount}, {maxCount + 1}, {7, maxCount + 1}, make([]int, 5000)}
)

// pathForm says what a path is.
var pathForm = regexp.MustCompile(`\A([a-z0-9]{1,6}(/[a-z0-9]{1,6}){0,3})?\z`)

func in(n, from, to int) bool { return from <= n && n <= to }

// ask: a client's request to the node behind it.
func ask(client, boot, seq, low int) api.Message {
	return api.Message{Kind: 1, From: client, To: (client + 1) % 8, Boot: boot, Seq: seq, Low: low, Verb: 3, Id: 5}
}

// back: what every answer to a request has.
func back(m api.Message) api.Message {
	return api.Message{Kind: 2, From: m.To, To: m.From, Boot: m.Boot, Seq: m.Seq}
}

// refusal, grant and end: answers to a request, of each kind that there is.
func refusal(m api.Message, code int) api.Message {
	a := back(m)
	a.Code = api.Errno(code)
	return a
}

func grant(m api.Message, id, term int, stamp ...int) api.Message {
	a := back(m)
	a.Id, a.Term, a.Stamp = id, term, stamp
	return a
}

func end(m api.Message, id int) api.Message { return grant(m, id, 0) }

// isAsk says which message is an Ask that may be, in another way than layer 6.
func isAsk(m api.Message) bool {
	used := api.Message{Kind: 1, From: m.From, To: m.To, Boot: m.Boot, Seq: m.Seq, Low: m.Low, Verb: m.Verb}
	good := in(m.From, 0, 7) && in(m.To, 0, 7) && m.From != m.To &&
		in(m.Boot, 1, maxCount) && in(m.Seq, 1, maxCount) && in(m.Low, 1, m.Seq)
	switch m.Verb {
	case 1:
		used.Path, used.Mode, used.Term = m.Path, m.Mode, m.Term
		good = good && pathForm.MatchString(m.Path) && in(int(m.Mode), 1, 2) && in(m.Term, 4, maxTerm)
	case 2:
		used.Id, used.Term, used.Fresh = m.Id, m.Term, m.Fresh
		good = good && in(m.Id, 1, maxCount) && in(m.Term, 4, maxTerm)
	case 3:
		used.Id = m.Id
		good = good && in(m.Id, 1, maxCount)
	default:
		return false
	}
	return good && same(m, used)
}

// isReply says which message is a Reply that may be.
func isReply(m api.Message) bool {
	used := api.Message{Kind: 2, From: m.From, To: m.To, Boot: m.Boot, Seq: m.Seq, Code: m.Code}
	good := in(m.From, 0, 7) && in(m.To, 0, 7) && m.From != m.To &&
		in(m.Boot, 1, maxCount) && in(m.Seq, 1, maxCount) && in(int(m.Code), 0, 99)
	if m.Code == 0 {
		used.Id, used.Term, used.Stamp = m.Id, m.Term, m.Stamp
		count := func(n int) bool { return in(n, 1, maxCount) }
		isStamp := in(len(m.Stamp), 1, 4) && !slices.ContainsFunc(m.Stamp, func(n int) bool { return !count(n) })
		good = good && count(m.Id) && (m.Term == 0 && len(m.Stamp) == 0 || in(m.Term, 4, maxTerm) && isStamp)
	}
	return good && same(m, used)
}

// same: are they one message? An empty list and none are one.
func same(a, b api.Message) bool {
	if len(a.Stamp)+len(b.Stamp) == 0 {
		a.Stamp, b.Stamp = nil, nil
	}
	return reflect.DeepEqual(a, b)
}

// copied: the same message, with a list of its own.
func copied(m api.Message) api.Message {
	m.Stamp = slices.Clone(m.Stamp)
	return m
}

// one: what has to be kept of a client.
type one struct {
	boot, low int
	answers   map[int]api.Message
}

// model: what replies have to keep, by clients.
type model [8]one

func newModel() *model {
	m := &model{}
	for i := range m {
		m[i] = one{0, 1, map[int]api.Message{}}
	}
	return m
}

// seen answers what Seen has to.
func (m *model) seen(x api.Message) (api.Verdict, api.Message) {
	if !isAsk(x) {
		return stale, api.Message{}
	}
	c := &m[x.From]
	if x.Boot < c.boot {
		return stale, api.Message{}
	}
	if x.Boot > c.boot {
		*c = one{x.Boot, 1, map[int]api.Message{}}
	}
	for ; c.low < x.Low && len(c.answers) > 0; c.low++ {
		delete(c.answers, c.low)
	}
	c.low = max(c.low, x.Low)
	if x.Seq < c.low || x.Seq-c.low >= window {
		return stale, api.Message{}
	}
	if a, ok := c.answers[x.Seq]; ok {
		return kept, a
	}
	return fresh, api.Message{}
}

// keep answers what Keep has to.
func (m *model) keep(x, answer api.Message) bool {
	if v, _ := m.seen(x); v != fresh || !isReply(answer) {
		return false
	}
	if answer.From != x.To || answer.To != x.From || answer.Boot != x.Boot || answer.Seq != x.Seq {
		return false
	}
	m[x.From].answers[x.Seq] = copied(answer)
	return true
}

// Each of these does one thing to replies and to the model, and holds the
// answers against each other.

func seen(t *testing.T, r *replies.Replies, m *model, x api.Message) (api.Verdict, api.Message) {
	t.Helper()
	want, answer := m.seen(x)
	v, a := r.Seen(x)
	if v != want || !same(a, answer) {
		t.Fatalf("Seen(%v) = %d, %v, not %d, %v", x, v, a, want, answer)
	}
	return v, a
}

func keep(t *testing.T, r *replies.Replies, m *model, x, answer api.Message) bool {
	t.Helper()
	want := m.keep(x, answer)
	if ok := r.Keep(x, answer); ok != want {
		t.Fatalf("Keep(%v, %v) = %t", x, answer, ok)
	}
	return want
}

// check holds all that replies tell of each client against the model.
func check(t *testing.T, r *replies.Replies, m *model) {
	t.Helper()
	for client := range m {
		checkOne(t, r, m, client)
	}
}

// checkOne holds all that replies tell of a client against the model. It asks
// for what changes nothing: the low of an Ask is 1, its boot no higher one.
func checkOne(t *testing.T, r *replies.Replies, m *model, client int) {
	t.Helper()
	c := m[client]
	if got := r.Len(client); got != len(c.answers) {
		t.Fatalf("Len(%d) = %d, not %d", client, got, len(c.answers))
	}
	if c.boot == 0 {
		return
	}
	for seq := c.low - window - 1; seq <= c.low+window+1; seq++ {
		seen(t, r, m, ask(client, c.boot, seq, 1))
	}
	seen(t, r, m, ask(client, c.boot-1, c.low, c.low))
}

// made: replies of a client at this boot and low, with an answer to each of
// these requests kept, and their model.
func made(t *testing.T, client, boot, low int, seqs ...int) (*replies.Replies, *model) {
	t.Helper()
	r, m := replies.New(), newModel()
	advance(t, r, m, client, boot, low, seqs...)
	return r, m
}

// advance: the client asks at this boot and low, and is answered these requests.
func advance(t *testing.T, r *replies.Replies, m *model, client, boot, low int, seqs ...int) {
	t.Helper()
	seen(t, r, m, ask(client, boot, low, low))
	for _, seq := range seqs {
		x := ask(client, boot, seq, low)
		if !keep(t, r, m, x, answerOf(x)) {
			t.Fatalf("of the client %d at the boot %d and the low %d, no answer to %d is kept", client, boot, low, seq)
		}
	}
}

// answerOf: one answer to each request, of each kind, none like another one.
func answerOf(m api.Message) api.Message {
	switch id := 1 + m.Seq%1000*8 + m.From; m.Seq % 3 {
	case 0:
		return refusal(m, 1+m.Seq%99)
	case 1:
		return end(m, id)
	default:
		return grant(m, id, 4+m.Boot%9, []int{id, 2, m.Seq, 4}[:1+m.Seq&3]...)
	}
}

// numbersFrom: so many numbers, rising from low on, that are counters.
func numbersFrom(low, count int) []int {
	var seqs []int
	for seq := low; seq < low+count && seq <= maxCount; seq++ {
		seqs = append(seqs, seq)
	}
	return seqs
}

// changed: this message with one field of any value, for each field.
func changed(m api.Message) []api.Message {
	var all []api.Message
	with := func(change func(x *api.Message)) {
		x := m
		change(&x)
		all = append(all, x)
	}
	for _, n := range numbers {
		with(func(x *api.Message) { x.Kind = api.Kind(n) })
		with(func(x *api.Message) { x.From = n })
		with(func(x *api.Message) { x.To = n })
		with(func(x *api.Message) { x.Boot = n })
		with(func(x *api.Message) { x.Seq = n })
		with(func(x *api.Message) { x.Low = n })
		with(func(x *api.Message) { x.Verb = api.Verb(n) })
		with(func(x *api.Message) { x.Mode = api.Mode(n) })
		with(func(x *api.Message) { x.Term = n })
		with(func(x *api.Message) { x.Id = n })
		with(func(x *api.Message) { x.Code = api.Errno(n) })
		with(func(x *api.Message) { x.Origin = n })
		with(func(x *api.Message) { x.Number = n })
	}
	for _, s := range texts {
		with(func(x *api.Message) { x.Path = s })
	}
	for _, s := range stamps {
		with(func(x *api.Message) { x.Stamp = s })
	}
	with(func(x *api.Message) { x.Fresh = !x.Fresh })
	return all
}

// others: messages that are no Ask of a client, and may be.
func others(client int) []api.Message {
	to := (client + 1) % 8
	return []api.Message{
		{Kind: 2, From: client, To: to, Boot: 9, Seq: 9, Code: 60},
		{Kind: 2, From: client, To: to, Boot: 9, Seq: 9, Id: 1, Term: 4, Stamp: []int{1}},
		{Kind: 3, From: client, To: to, Id: 1, Path: "a", Origin: 1, Number: 1},
		{Kind: 4, From: client, To: to, Id: 1, Origin: 1, Number: 1},
		{Kind: 5, From: client, To: 8, Path: "a", Mode: 1},
	}
}

// some: any request of a client near to where it stands, mostly one that may be.
func some(dice *rand.Rand, m *model, client int) api.Message {
	c := m[client]
	x := ask(client, max(c.boot, 1), c.low+dice.Intn(window+4)-2, 1)
	switch dice.Intn(20) {
	case 0:
		x.Boot++
	case 1:
		x.Boot--
	case 2:
		all := changed(x)
		return all[dice.Intn(len(all))]
	case 3:
		x.Low = 0
	}
	if dice.Intn(4) == 0 {
		x.Low = c.low + dice.Intn(4) - 1
	}
	if x.Boot != c.boot && dice.Intn(2) == 0 {
		x.Seq, x.Low = 1+dice.Intn(9), 1+dice.Intn(2)
	}
	switch dice.Intn(3) {
	case 0:
		x.Verb, x.Path, x.Mode, x.Term, x.Id = 1, "a/b", 1, 9, 0
	case 1:
		x.Verb, x.Term, x.Fresh = 2, 7, dice.Intn(2) == 0
	}
	return x
}

// step does any one thing to replies and to their model.
func step(t *testing.T, dice *rand.Rand, r *replies.Replies, m *model) {
	t.Helper()
	x := some(dice, m, dice.Intn(8))
	if dice.Intn(3) == 0 {
		seen(t, r, m, x)
		return
	}
	a := answerOf(x)
	if dice.Intn(6) == 0 {
		all := append(changed(a), others(3)...)
		a = all[dice.Intn(len(all))]
	}
	keep(t, r, m, x, a)
}
