package bag_test

import (
	"bytes"
	"fmt"
	"math"
	"math/rand"
	"slices"
	"strings"
	"testing"

	"sublet/api"
	"sublet/bag"
)

// edges: numbers of senders and receivers, and of packets, the least and the
// greatest among them, and those at which numbers of fewer bits would be taken
// for one another.
var edges = []int{math.MinInt, math.MinInt + 1, -1 << 32, -256, -2, -1, 0, 1, 7, 8, 46, 47, 48, 49, 256, 1 << 32, 1<<32 + 1, math.MaxInt - 1, math.MaxInt}

// packet: one of these fields.
func packet(from, to int, data string) api.Packet {
	return api.Packet{From: from, To: to, Data: []byte(data)}
}

// bytesOf: so many bytes, which hang on a number.
func bytesOf(size, seed int) string {
	data := make([]byte, size)
	for i := range data {
		data[i] = byte(seed*31 + i*7 + i/256)
	}
	return string(data)
}

// told: a packet as the model keeps it, with a text, which nobody can change.
type told struct {
	from, to int
	data     string
}

// String: with the bytes in a form that can be read.
func (p told) String() string { return fmt.Sprintf("{%d %d %q}", p.from, p.to, p.data) }

// of: what a packet tells.
func of(p api.Packet) told { return told{p.From, p.To, string(p.Data)} }

// ofAll: what packets tell, in order.
func ofAll(list []api.Packet) []told {
	all := make([]told, len(list))
	for i, p := range list {
		all[i] = of(p)
	}
	return all
}

// model: what a bag has to keep.
type model struct {
	in         []told
	sent, lost int
}

// send answers what Send has to.
func (m *model) send(p told) api.Errno {
	if len(p.data) > 200 {
		m.lost++
		return api.ErrSpace
	}
	if len(m.in) >= 48 {
		m.lost++
		return api.ErrFull
	}
	m.sent++
	m.in = append(m.in, p)
	return api.OK
}

// look answers what Look has to.
func (m *model) look(k int) (told, bool) {
	for i, p := range m.in {
		if i == k {
			return p, true
		}
	}
	return told{}, false
}

// take answers what Take has to.
func (m *model) take(k int) (told, bool) {
	p, ok := m.look(k)
	if ok {
		m.in = slices.Concat(m.in[:k], m.in[k+1:])
	}
	return p, ok
}

// double answers what Double has to.
func (m *model) double(k int) api.Errno {
	p, ok := m.look(k)
	if !ok {
		return api.ErrGone
	}
	if len(m.in) >= 48 {
		return api.ErrFull
	}
	m.in = append(m.in, p)
	return api.OK
}

// copied: a model that goes on apart.
func (m model) copied() model {
	m.in = slices.Clone(m.in)
	return m
}

// check holds all that a bag tells against the model.
func check(t *testing.T, b *bag.Bag, m model) {
	t.Helper()
	if b.Len() != len(m.in) || b.Sent() != m.sent || b.Lost() != m.lost {
		t.Fatalf("Len %d, Sent %d, Lost %d, not %d, %d, %d", b.Len(), b.Sent(), b.Lost(), len(m.in), m.sent, m.lost)
	}
	if got := ofAll(b.List()); !slices.Equal(got, m.in) {
		t.Fatalf("List = %v, not %v", got, m.in)
	}
	for k := range m.in {
		checkLook(t, b, m, k)
	}
}

// checkLook holds what Look answers against the model.
func checkLook(t *testing.T, b *bag.Bag, m model, k int) {
	t.Helper()
	want, there := m.look(k)
	if p, ok := b.Look(k); of(p) != want || ok != there {
		t.Fatalf("Look(%d) of %d = %v, %t, not %v, %t", k, len(m.in), p, ok, want, there)
	}
}

// Each of these does one thing to a bag and to the model, and holds the answers
// against each other.

func send(t *testing.T, b *bag.Bag, m *model, p api.Packet) api.Errno {
	t.Helper()
	sent := of(p)
	want := m.send(sent)
	if got := b.Send(p); got != want {
		t.Fatalf("Send of %d bytes to %d packets = %d, not %d", len(p.Data), len(m.in), got, want)
	}
	if of(p) != sent {
		t.Fatalf("Send has changed %v to %v", sent, p)
	}
	return want
}

func take(t *testing.T, b *bag.Bag, m *model, k int) {
	t.Helper()
	many := len(m.in)
	want, there := m.take(k)
	if p, ok := b.Take(k); of(p) != want || ok != there {
		t.Fatalf("Take(%d) of %d = %v, %t, not %v, %t", k, many, p, ok, want, there)
	}
}

func drop(t *testing.T, b *bag.Bag, m *model, k int) {
	t.Helper()
	many := len(m.in)
	_, want := m.take(k)
	if ok := b.Drop(k); ok != want {
		t.Fatalf("Drop(%d) of %d = %t", k, many, ok)
	}
}

func double(t *testing.T, b *bag.Bag, m *model, k int) {
	t.Helper()
	many := len(m.in)
	want := m.double(k)
	if e := b.Double(k); e != want {
		t.Fatalf("Double(%d) of %d = %d, not %d", k, many, e, want)
	}
}

// filled: a bag of so many packets, no two alike, and its model.
func filled(t *testing.T, count int) (*bag.Bag, model) {
	t.Helper()
	b, m := bag.New(), model{}
	for i := range count {
		send(t, b, &m, packet(edges[i%len(edges)], i, bytesOf(i%7, i)))
	}
	check(t, b, m)
	return b, m
}

// sizes: how many packets the tests begin with.
var sizes = []int{0, 1, 2, 3, 47, 48}

// places: numbers of packets to be asked of a bag of so many.
func places(count int) []int {
	return append([]int{count - 2, count - 1, count, count + 1, count / 2, count * 2}, edges...)
}

func TestExampleOfTheDocument(t *testing.T) {
	b := bag.New()
	want := func(names string, sent, lost int) {
		t.Helper()
		got := ""
		for _, p := range b.List() {
			got += string(p.Data)
		}
		if got != names || b.Len() != len(names) || b.Sent() != sent || b.Lost() != lost {
			t.Errorf("%q, Len %d, Sent %d, Lost %d, not %q, Sent %d, Lost %d", got, b.Len(), b.Sent(), b.Lost(), names, sent, lost)
		}
	}
	if b.Send(packet(1, 0, "x")) != api.OK || b.Send(packet(2, 0, "y")) != api.OK {
		t.Error("Send")
	}
	want("xy", 2, 0)
	if b.Double(0) != api.OK {
		t.Error("Double(0)")
	}
	want("xyx", 2, 0)
	if p, ok := b.Take(0); !ok || of(p) != (told{1, 0, "x"}) {
		t.Errorf("Take(0) = %v, %t", p, ok)
	}
	want("yx", 2, 0)
	if p, ok := b.Look(1); !ok || of(p) != (told{1, 0, "x"}) {
		t.Errorf("Look(1) = %v, %t", p, ok)
	}
	if b.Drop(5) {
		t.Error("Drop(5) is true")
	}
	if p, ok := b.Take(-1); ok || of(p) != (told{}) {
		t.Errorf("Take(-1) = %v, %t", p, ok)
	}
	if e := b.Double(2); e != api.ErrGone {
		t.Errorf("Double(2) = %d", e)
	}
	want("yx", 2, 0)
	for range 46 {
		b.Send(packet(0, 1, "z"))
	}
	if e := b.Send(packet(1, 0, "x")); e != api.ErrFull {
		t.Errorf("Send at 48 = %d", e)
	}
	want("yx"+strings.Repeat("z", 46), 48, 1)
	if e := b.Double(0); e != api.ErrFull {
		t.Errorf("Double at 48 = %d", e)
	}
	want("yx"+strings.Repeat("z", 46), 48, 1)
}

// Types.

func TestNewBagIsEmpty(t *testing.T) {
	b := bag.New()
	if b == nil {
		t.Fatal("New answers nil")
	}
	check(t, b, model{})
}

// A bag that New didn't make is an empty one.
func TestZeroBag(t *testing.T) {
	b, m := &bag.Bag{}, model{}
	check(t, b, m)
	for _, k := range edges {
		take(t, b, &m, k)
		drop(t, b, &m, k)
		double(t, b, &m, k)
	}
	for i := range 50 {
		send(t, b, &m, packet(i, 0, "x"))
		check(t, b, m)
	}
}

func TestNilBag(t *testing.T) {
	var b *bag.Bag
	for _, p := range []api.Packet{{}, packet(1, 2, "x"), packet(1, 2, bytesOf(200, 1)), packet(1, 2, bytesOf(201, 1)), packet(math.MinInt, math.MaxInt, bytesOf(1<<20, 1))} {
		if e := b.Send(p); e != api.ErrNil {
			t.Errorf("Send of %d bytes = %d", len(p.Data), e)
		}
	}
	for _, k := range edges {
		if e := b.Double(k); e != api.ErrNil {
			t.Errorf("Double(%d) = %d", k, e)
		}
		if b.Drop(k) {
			t.Errorf("Drop(%d) is true", k)
		}
		if p, ok := b.Take(k); ok || of(p) != (told{}) {
			t.Errorf("Take(%d) = %v, %t", k, p, ok)
		}
		if p, ok := b.Look(k); ok || of(p) != (told{}) {
			t.Errorf("Look(%d) = %v, %t", k, p, ok)
		}
		check(t, b, model{})
	}
}

// P7.1.

func TestSendOfAnyNumbers(t *testing.T) {
	for _, from := range edges {
		b, m := bag.New(), model{}
		for _, to := range edges {
			if e := send(t, b, &m, packet(from, to, "x")); e != api.OK {
				t.Errorf("Send from %d to %d = %d", from, to, e)
			}
		}
		check(t, b, m)
	}
}

func TestSendOfAnySize(t *testing.T) {
	b, m := bag.New(), model{}
	if e := send(t, b, &m, api.Packet{From: 1, To: 2}); e != api.OK {
		t.Errorf("Send without Data = %d", e)
	}
	check(t, b, m)
	for _, c := range []struct {
		size int
		want api.Errno
	}{{0, api.OK}, {1, api.OK}, {2, api.OK}, {199, api.OK}, {200, api.OK}, {201, api.ErrSpace}, {202, api.ErrSpace}, {256, api.ErrSpace}, {456, api.ErrSpace}, {1 << 20, api.ErrSpace}} {
		if e := send(t, b, &m, packet(3, 4, bytesOf(c.size, 5))); e != c.want {
			t.Errorf("Send of %d bytes = %d, not %d", c.size, e, c.want)
		}
		check(t, b, m)
	}
}

// Whatever the bytes are, they are in as they were.
func TestSendOfAnyBytes(t *testing.T) {
	b, m := bag.New(), model{}
	for c := range 256 {
		send(t, b, &m, packet(0, 1, strings.Repeat(string([]byte{byte(c), byte(255 - c)}), c%100)))
		check(t, b, m)
		take(t, b, &m, 0)
	}
}

// Room behind the end of the Data counts for nothing.
func TestSendDoesNotCountSpareRoom(t *testing.T) {
	b, m := bag.New(), model{}
	for _, size := range []int{0, 1, 200} {
		if e := send(t, b, &m, api.Packet{Data: make([]byte, size, 1000)}); e != api.OK {
			t.Errorf("Send of %d bytes, with room for 1000, = %d", size, e)
		}
		check(t, b, m)
	}
}

func TestSendUntilTheBagIsFull(t *testing.T) {
	b, m := filled(t, 46)
	for i, want := range []api.Errno{api.OK, api.OK, api.ErrFull, api.ErrFull} {
		if e := send(t, b, &m, packet(i, 1, "x")); e != want {
			t.Errorf("Send to %d = %d, not %d", 46+i, e, want)
		}
		check(t, b, m)
	}
	for _, k := range []int{0, 47, 20} {
		drop(t, b, &m, k)
		for _, want := range []api.Errno{api.OK, api.ErrFull} {
			if e := send(t, b, &m, packet(k, 2, "y")); e != want {
				t.Errorf("Send behind Drop(%d) = %d, not %d", k, e, want)
			}
			check(t, b, m)
		}
	}
}

// A full bag and a packet that is too long: the latter is named first.
func TestSendNamesTheFirstError(t *testing.T) {
	for _, count := range sizes {
		for size, want := range map[int]api.Errno{0: api.ErrFull, 1: api.ErrFull, 199: api.ErrFull, 200: api.ErrFull, 201: api.ErrSpace, 1000: api.ErrSpace} {
			if want == api.ErrFull && count < 48 {
				want = api.OK
			}
			b, m := filled(t, count)
			if e := send(t, b, &m, packet(1, 2, bytesOf(size, 3))); e != want {
				t.Errorf("Send of %d bytes to %d = %d, not %d", size, count, e, want)
			}
			check(t, b, m)
		}
	}
}

// Each call moves just the count that is its own.
func TestCounts(t *testing.T) {
	b := bag.New()
	want := func(call string, sent, lost int) {
		t.Helper()
		if b.Sent() != sent || b.Lost() != lost {
			t.Errorf("behind %s: Sent %d, Lost %d, not %d, %d", call, b.Sent(), b.Lost(), sent, lost)
		}
	}
	for i := range 48 {
		b.Send(packet(1, 2, "x"))
		want("Send", i+1, 0)
	}
	b.Send(packet(1, 2, "x"))
	want("Send of a packet to a full bag", 48, 1)
	b.Send(packet(1, 2, bytesOf(201, 1)))
	want("Send of a long packet to a full bag", 48, 2)
	b.Double(0)
	want("Double in a full bag", 48, 2)
	b.Take(0)
	want("Take", 48, 2)
	b.Drop(0)
	want("Drop", 48, 2)
	b.Look(0)
	want("Look", 48, 2)
	b.Double(0)
	want("Double", 48, 2)
	b.Send(packet(1, 2, bytesOf(201, 1)))
	want("Send of a long packet", 48, 3)
	for _, k := range []int{-1, 47, math.MinInt, math.MaxInt} {
		b.Take(k)
		b.Drop(k)
		b.Look(k)
		b.Double(k)
		want("what isn't there", 48, 3)
	}
	b.Send(packet(1, 2, "x"))
	want("Send", 49, 3)
	for range 50 {
		b.Drop(0)
		want("Drop", 49, 3)
	}
}

// P7.2.

func TestWhatIsAndWhatIsNotThere(t *testing.T) {
	for _, count := range sizes {
		for _, k := range places(count) {
			b, m := filled(t, count)
			checkLook(t, b, m, k)
			check(t, b, m)
			double(t, b, &m, k)
			check(t, b, m)
			b, m = filled(t, count)
			take(t, b, &m, k)
			check(t, b, m)
			b, m = filled(t, count)
			drop(t, b, &m, k)
			check(t, b, m)
		}
	}
}

// What there is of packet k, said without the model.
func TestThereAreThePacketsFromZeroOn(t *testing.T) {
	for _, count := range sizes {
		for _, k := range places(count) {
			there, gone := k >= 0 && k < count, api.ErrGone
			if there {
				gone = api.OK
				if count == 48 {
					gone = api.ErrFull
				}
			}
			b, _ := filled(t, count)
			if _, ok := b.Look(k); ok != there {
				t.Errorf("Look(%d) of %d: %t", k, count, ok)
			}
			if e := b.Double(k); e != gone {
				t.Errorf("Double(%d) of %d = %d, not %d", k, count, e, gone)
			}
			b, _ = filled(t, count)
			if _, ok := b.Take(k); ok != there {
				t.Errorf("Take(%d) of %d: %t", k, count, ok)
			}
			b, _ = filled(t, count)
			if ok := b.Drop(k); ok != there {
				t.Errorf("Drop(%d) of %d: %t", k, count, ok)
			}
		}
	}
}

// Those behind a packet that comes out move up by one, and those ahead stay.
func TestOrderOfWhatIsLeft(t *testing.T) {
	for _, count := range []int{1, 2, 3, 5, 48} {
		for k := range count {
			_, m := filled(t, count)
			want := slices.Concat(m.in[:k], m.in[k+1:])
			b, _ := filled(t, count)
			if p, ok := b.Take(k); !ok || of(p) != m.in[k] {
				t.Errorf("Take(%d) of %d = %v, %t", k, count, p, ok)
			}
			if got := ofAll(b.List()); !slices.Equal(got, want) {
				t.Errorf("behind Take(%d): %v, not %v", k, got, want)
			}
			b, _ = filled(t, count)
			b.Drop(k)
			if got := ofAll(b.List()); !slices.Equal(got, want) {
				t.Errorf("behind Drop(%d): %v, not %v", k, got, want)
			}
		}
	}
}

func TestTakenTillNothingIsLeft(t *testing.T) {
	b, m := filled(t, 48)
	for i := range 50 {
		take(t, b, &m, []int{0, len(m.in) - 1, len(m.in) / 2}[i%3])
		check(t, b, m)
	}
	send(t, b, &m, packet(1, 2, "x"))
	check(t, b, m)
}

// A packet is doubled as it is, stands behind all others, and is one of its own.
func TestDoubledPacketsStandBehind(t *testing.T) {
	for _, k := range []int{0, 1, 2} {
		b, m := filled(t, 3)
		for range 46 {
			double(t, b, &m, k)
			check(t, b, m)
		}
		drop(t, b, &m, k)
		check(t, b, m)
		double(t, b, &m, 46)
		check(t, b, m)
	}
}

// A full bag and a packet that isn't there: the latter is named first.
func TestDoubleNamesTheFirstError(t *testing.T) {
	b, m := filled(t, 48)
	for _, k := range []int{-1, 48, 49, math.MinInt, math.MaxInt} {
		if e := b.Double(k); e != api.ErrGone {
			t.Errorf("Double(%d) of a full bag = %d", k, e)
		}
	}
	for k := range 48 {
		if e := b.Double(k); e != api.ErrFull {
			t.Errorf("Double(%d) of a full bag = %d", k, e)
		}
	}
	check(t, b, m)
}

// Packets that were long, short and without bytes are doubled alike.
func TestDoubleOfAnySize(t *testing.T) {
	for _, size := range []int{0, 1, 199, 200} {
		b, m := bag.New(), model{}
		send(t, b, &m, packet(math.MinInt, math.MaxInt, bytesOf(size, 9)))
		double(t, b, &m, 0)
		double(t, b, &m, 1)
		check(t, b, m)
		if m.sent != 1 || len(m.in) != 3 {
			t.Errorf("Sent %d, Len %d", m.sent, len(m.in))
		}
	}
}

// P7.3.

func TestLenAndListOfAnyCount(t *testing.T) {
	b := bag.New()
	for i := range 60 {
		b.Send(packet(i, -i, fmt.Sprint(i)))
		list := b.List()
		if want := min(i+1, 48); b.Len() != want || len(list) != want {
			t.Fatalf("Len %d, and %d packets in the List, not %d", b.Len(), len(list), want)
		}
		for k, p := range list {
			if of(p) != (told{k, -k, fmt.Sprint(k)}) {
				t.Fatalf("List has %v at %d", p, k)
			}
		}
	}
}

// P7.4.

// step does any one thing to a bag and to its model.
func step(t *testing.T, dice *rand.Rand, b *bag.Bag, m *model) {
	t.Helper()
	k := dice.Intn(len(m.in)+3) - 1
	if dice.Intn(20) == 0 {
		k = edges[dice.Intn(len(edges))]
	}
	switch dice.Intn(8) {
	case 0:
		take(t, b, m, k)
	case 1:
		drop(t, b, m, k)
	case 2:
		checkLook(t, b, *m, k)
	case 3:
		double(t, b, m, k)
	case 4:
		send(t, b, m, packet(dice.Int(), -dice.Int(), bytesOf(195+dice.Intn(12), dice.Int())))
	default:
		send(t, b, m, packet(dice.Intn(4), dice.Intn(4), bytesOf(dice.Intn(9), dice.Int())))
	}
}

func TestAnySteps(t *testing.T) {
	dice := rand.New(rand.NewSource(71))
	for range 30 {
		b, m := bag.New(), model{}
		for range 400 {
			step(t, dice, b, &m)
			check(t, b, m)
			if b.Len() > api.MaxBag {
				t.Fatalf("Len %d", b.Len())
			}
		}
	}
}

// Reckoned from the answers alone: what came out is what was sent, one for one.
func TestWhatComesOutWasSent(t *testing.T) {
	dice := rand.New(rand.NewSource(74))
	for round := range 40 {
		b, out := bag.New(), 0
		under := map[told]int{}
		for i := range 600 {
			k := dice.Intn(52) - 2
			switch dice.Intn(3 + round%3) {
			case 0:
				p, ok := b.Take(k)
				if ok {
					out++
					under[of(p)]--
				}
				if under[of(p)] < 0 {
					t.Fatalf("%v came out, and wasn't sent", p)
				}
			case 1:
				p, _ := b.Look(k)
				if b.Drop(k) {
					out++
					under[of(p)]--
				}
			default:
				p := packet(i%5, i%3, bytesOf(dice.Intn(220), i%4))
				if b.Send(p) == api.OK {
					under[of(p)]++
				}
			}
			if out != b.Sent()-b.Len() {
				t.Fatalf("%d have come out, Sent is %d and Len %d", out, b.Sent(), b.Len())
			}
			left := map[told]int{}
			for _, p := range b.List() {
				left[of(p)]++
			}
			for p, n := range under {
				if left[p] != n {
					t.Fatalf("%v stands in the bag %d times, not %d", p, left[p], n)
				}
			}
		}
	}
}

// Doubled or not, what comes out was sent.
func TestWhatIsDoubledWasSent(t *testing.T) {
	dice := rand.New(rand.NewSource(75))
	b, sent := bag.New(), map[told]int{}
	for i := range 3000 {
		if p := packet(i, -i, bytesOf(i%210, i)); b.Send(p) == api.OK {
			sent[of(p)]++
		}
		b.Double(dice.Intn(50))
		for range 2 {
			if p, ok := b.Take(dice.Intn(50)); ok && sent[of(p)] == 0 {
				t.Fatalf("%v came out, and wasn't sent", p)
			}
		}
	}
}

// R1.

func TestLongPacketsEnd(t *testing.T) {
	long := make([]byte, 1<<26)
	for _, count := range []int{0, 48} {
		b, m := filled(t, count)
		for i := range 1000 {
			if e := b.Send(api.Packet{Data: long}); e != api.ErrSpace {
				t.Fatalf("Send of %d bytes = %d", len(long), e)
			}
			if b.Lost() != m.lost+i+1 || b.Len() != count {
				t.Fatalf("Lost %d, Len %d", b.Lost(), b.Len())
			}
		}
	}
}

// R5 and R6.

// withRoom: these bytes, with spare room behind their end, filled with a mark.
func withRoom(data string, mark byte) []byte {
	room := bytes.Repeat([]byte{mark}, len(data)+50)
	copy(room, data)
	return room[:len(data)]
}

// fill: all of a list, its spare room too.
func fill[T any](list []T, x T) {
	list = list[:cap(list)]
	for i := range list {
		list[i] = x
	}
}

func TestWhatIsSentStaysAsItIs(t *testing.T) {
	for _, size := range []int{0, 1, 199, 200, 201, 400} {
		for _, count := range []int{0, 47, 48} {
			b, _ := filled(t, count)
			data := withRoom(bytesOf(size, 3), 77)
			before := slices.Clone(data[:cap(data)])
			b.Send(api.Packet{From: 1, To: 2, Data: data})
			b.Double(b.Len() - 1)
			for range 2 {
				if p, ok := b.Look(b.Len() - 1); ok {
					fill(p.Data, 99)
				}
				for _, p := range b.List() {
					fill(p.Data, 99)
				}
				if p, ok := b.Take(b.Len() - 1); ok {
					fill(p.Data, 99)
				}
			}
			if !bytes.Equal(data[:cap(data)], before) {
				t.Errorf("Send of %d bytes to %d: they have become % x", size, count, data[:cap(data)])
			}
		}
	}
}

// What is done to the bytes behind the Send reaches no packet.
func TestWhatIsSentIsNotKept(t *testing.T) {
	for _, size := range []int{0, 1, 199, 200} {
		b, m := bag.New(), model{}
		data := withRoom(bytesOf(size, 3), 77)
		for i := range 5 {
			send(t, b, &m, api.Packet{From: i, Data: data})
			check(t, b, m)
			if i == 2 {
				double(t, b, &m, 1)
			}
			fill(data, byte(100+i))
			check(t, b, m)
		}
	}
}

// checkApart holds that no two lists share memory: each keeps a mark of its own.
func checkApart(t *testing.T, lists [][]byte) {
	t.Helper()
	for i, list := range lists {
		fill(list, byte(i))
	}
	for i, list := range lists {
		for _, c := range list[:cap(list)] {
			if c != byte(i) {
				t.Fatalf("lists %d and %d of %d share memory", i, c, len(lists))
			}
		}
	}
}

func TestAnsweredBytesShareNoMemory(t *testing.T) {
	for _, size := range []int{0, 1, 3, 199, 200} {
		b, m := bag.New(), model{}
		var lists [][]byte
		for i := range 4 {
			data := withRoom(bytesOf(size, i), 200)
			lists = append(lists, data)
			send(t, b, &m, api.Packet{From: i, Data: data})
			double(t, b, &m, 0)
			double(t, b, &m, b.Len()-1)
		}
		for range 2 {
			for _, p := range b.List() {
				lists = append(lists, p.Data)
			}
			for k := range b.Len() {
				p, _ := b.Look(k)
				lists = append(lists, p.Data)
			}
		}
		for _, k := range []int{0, 0, 3, b.Len() - 4} {
			m.take(k)
			p, _ := b.Take(k)
			lists = append(lists, p.Data)
		}
		for range 5 {
			checkApart(t, lists)
			check(t, b, m)
			m.take(1)
			p, _ := b.Take(1)
			lists = append(lists, p.Data)
			double(t, b, &m, 0)
			drop(t, b, &m, 2)
		}
	}
}

func TestAnsweredListsShareNoMemory(t *testing.T) {
	for _, count := range sizes {
		b, m := filled(t, count)
		first, second := b.List(), b.List()
		fill(first, packet(777, 777, "spoilt"))
		fill(second, packet(888, 888, "spoilt"))
		for _, p := range first[:cap(first)] {
			if p.From != 777 {
				t.Errorf("two lists of %d share memory", count)
			}
		}
		_ = append(second[:len(second):cap(second)], packet(888, 888, "spoilt"))
		check(t, b, m)
	}
}

// A packet and its like: what is done to what is answered of one reaches neither.
func TestDoubledPacketsShareNothing(t *testing.T) {
	for _, k := range []int{0, 1} {
		b, m := bag.New(), model{}
		send(t, b, &m, packet(1, 2, "abc"))
		double(t, b, &m, 0)
		p, _ := b.Take(k)
		m.take(k)
		fill(p.Data, 99)
		check(t, b, m)
		double(t, b, &m, 0)
		p, _ = b.Look(k)
		fill(p.Data, 98)
		check(t, b, m)
	}
}

// An answer stays what it was, whatever is done to the bag behind it.
func TestAnswersStay(t *testing.T) {
	dice := rand.New(rand.NewSource(76))
	b, m := filled(t, 48)
	list := b.List()
	wantList := ofAll(list)
	looked, _ := b.Look(20)
	want := of(looked)
	taken, _ := b.Take(20)
	m.take(20)
	for range 500 {
		step(t, dice, b, &m)
	}
	if !slices.Equal(ofAll(list), wantList) {
		t.Errorf("what List answered is now %v", list)
	}
	if of(looked) != want || of(taken) != want {
		t.Errorf("what was answered of %v is now %v, %v", want, looked, taken)
	}
}

// R7.

// Bags that were made apart, and such as were copied, go on apart.
func TestBagsDoNotTouchEachOther(t *testing.T) {
	dice := rand.New(rand.NewSource(77))
	first, m := filled(t, 20)
	bags := []*bag.Bag{first, bag.New(), {}}
	models := []model{m, {}, {}}
	for range 3 {
		other := *first
		bags, models = append(bags, &other), append(models, m.copied())
	}
	for range 3000 {
		i := dice.Intn(len(bags))
		step(t, dice, bags[i], &models[i])
		if p, ok := bags[i].Look(0); ok {
			fill(p.Data, 99)
		}
		for j, b := range bags {
			check(t, b, models[j])
		}
	}
}

// What comes out of one copy of a bag is not the other one's.
func TestTakenFromACopy(t *testing.T) {
	b, m := filled(t, 30)
	other := *b
	for range 30 {
		p, _ := other.Take(0)
		fill(p.Data, 99)
		check(t, b, m)
	}
}

// What is asked is told the same each time, and changes nothing itself.
func TestAskedTwiceIsToldTwice(t *testing.T) {
	for _, count := range sizes {
		b, m := filled(t, count)
		for range 20 {
			for _, k := range places(count) {
				checkLook(t, b, m, k)
			}
			check(t, b, m)
		}
	}
}
