package octets_test

import (
	"bytes"
	"encoding/binary"
	"fmt"
	"hash/crc32"
	"math"
	"math/bits"
	"math/rand"
	"slices"
	"strings"
	"testing"

	"sublet/api"
	"sublet/octets"
)

// oracleNum: a number's form, by the library's way.
func oracleNum(n int) []byte {
	if n < 0 {
		n = 0
	}
	return binary.AppendUvarint(nil, uint64(n))
}

// oracleText: a text's form.
func oracleText(s string) []byte { return append(oracleNum(len(s)), s...) }

// oracleHead: the number that b begins with, the bytes of its form, and the
// error. It finds the end first, where the package goes byte by byte.
func oracleHead(b []byte) (int, int, api.Errno) {
	end := slices.IndexFunc(b, func(c byte) bool { return c < 128 })
	switch {
	case end < 0 && len(b) < 9:
		return 0, 0, api.ErrShort
	case end < 0 || end > 8:
		return 0, 0, api.ErrForm
	case end > 0 && b[end] == 0:
		return 0, 0, api.ErrForm
	}
	n, size := binary.Uvarint(b)
	return int(n), size, api.OK
}

// oracle is a reader that keeps where it stands in bytes that it never cuts.
type oracle struct {
	b   []byte
	at  int
	err api.Errno
}

func (o *oracle) num() int {
	if o.err != api.OK {
		return 0
	}
	n, size, e := oracleHead(o.b[o.at:])
	o.at, o.err = o.at+size, e
	return n
}

func (o *oracle) text(most int) string {
	if o.err != api.OK {
		return ""
	}
	n, size, e := oracleHead(o.b[o.at:])
	start := o.at + size
	if e == api.OK && n > 0 && n > most {
		e = api.ErrForm
	}
	if e == api.OK && n > len(o.b)-start {
		e = api.ErrShort
	}
	if o.err = e; e != api.OK {
		return ""
	}
	o.at = start + n
	return string(o.b[start:o.at])
}

// checkReader holds what a reader says of itself against what it should say.
func checkReader(t *testing.T, what string, r *octets.Reader, left int, e api.Errno) {
	t.Helper()
	for range 2 {
		if r.Left() != left || r.Err() != e {
			t.Fatalf("%s: Left %d, Err %d, not %d, %d", what, r.Left(), r.Err(), left, e)
		}
	}
}

// checkStuck: behind an error a reader takes nothing, whatever is left.
func checkStuck(t *testing.T, what string, r *octets.Reader) {
	t.Helper()
	left, e := r.Left(), r.Err()
	for _, most := range []int{math.MinInt, -1, 0, 1, math.MaxInt} {
		if n, s := r.Num(), r.Text(most); n != 0 || s != "" {
			t.Fatalf("%s: behind the error %d Num %d, Text(%d) %q", what, e, n, most, s)
		}
		checkReader(t, what+", behind its error", r, left, e)
	}
}

// edges are numbers around all powers of two, and the ends.
func edges() []int {
	all := []int{0, 126, 127, 128, 129, 255, 256, 300, 16383, 16384, 16385, math.MaxInt - 1, math.MaxInt}
	for k := range 63 {
		all = append(all, 1<<k-1, 1<<k, 1<<k+1)
	}
	return all
}

func TestFormsOfTheDocument(t *testing.T) {
	for _, c := range []struct {
		n    int
		want string
	}{
		{0, "\x00"}, {1, "\x01"}, {127, "\x7f"}, {128, "\x80\x01"}, {300, "\xac\x02"}, {16383, "\xff\x7f"}, {16384, "\x80\x80\x01"},
		{-1, "\x00"}, {-5, "\x00"}, {-128, "\x00"}, {math.MinInt, "\x00"},
		{9223372036854775807, "\xff\xff\xff\xff\xff\xff\xff\xff\x7f"}, {1 << 62, "\x80\x80\x80\x80\x80\x80\x80\x80\x40"},
	} {
		var w octets.Writer
		w.Num(c.n)
		if string(w.Bytes()) != c.want {
			t.Errorf("Num(%d): % x, not % x", c.n, w.Bytes(), c.want)
		}
	}
	for s, want := range map[string]string{"": "\x00", "ab": "\x02ab", "\x00": "\x01\x00", "\xff\x80": "\x02\xff\x80", "\u00e9": "\x02\xc3\xa9"} {
		var w octets.Writer
		w.Text(s)
		if string(w.Bytes()) != want {
			t.Errorf("Text(%q): % x, not % x", s, w.Bytes(), want)
		}
	}
}

func TestFormsOfAllEdges(t *testing.T) {
	for _, n := range edges() {
		for _, n := range []int{n, -n, ^n} {
			var w octets.Writer
			w.Num(n)
			if !bytes.Equal(w.Bytes(), oracleNum(n)) {
				t.Errorf("Num(%d): % x, not % x", n, w.Bytes(), oracleNum(n))
			}
		}
		var w octets.Writer
		if w.Num(n); len(w.Bytes()) != max(1, (bits.Len(uint(n))+6)/7) {
			t.Errorf("Num(%d) has %d bytes", n, len(w.Bytes()))
		}
	}
	for _, size := range []int{0, 1, 2, 126, 127, 128, 129, 255, 256, 16383, 16384, 70000} {
		for _, part := range []string{"a", "\x00", "\x80", "\xff\x00\x01"} {
			s := strings.Repeat(part, size)[:size]
			var w octets.Writer
			w.Text(s)
			if !bytes.Equal(w.Bytes(), oracleText(s)) {
				t.Errorf("Text of %d bytes %q isn't its form", size, part)
			}
		}
	}
}

func TestWriterLaysEachBehindWhatThereIs(t *testing.T) {
	var w octets.Writer
	if len(w.Bytes()) != 0 {
		t.Errorf("the zero Writer: % x", w.Bytes())
	}
	var want []byte
	for i := range 3000 {
		n, s := i*i*i, strings.Repeat("xyz", i%5)
		w.Num(n)
		want = append(want, oracleNum(n)...)
		if i%7 == 0 && !bytes.Equal(w.Bytes(), want) {
			t.Fatalf("behind %d numbers: other bytes", i+1)
		}
		w.Text(s)
		want = append(want, oracleText(s)...)
		if i%11 == 0 && !bytes.Equal(w.Bytes(), want) {
			t.Fatalf("behind %d texts: other bytes", i+1)
		}
	}
	if !bytes.Equal(w.Bytes(), want) || !bytes.Equal(w.Bytes(), want) {
		t.Error("all that has been laid down: other bytes")
	}
}

func TestWritersDontTouchEachOther(t *testing.T) {
	var a, b octets.Writer
	for i := range 40 {
		a.Num(i)
		b.Num(60 + i)
	}
	for i := range 40 {
		if a.Bytes()[i] != byte(i) || b.Bytes()[i] != byte(60+i) {
			t.Fatalf("two writers: % x, % x", a.Bytes(), b.Bytes())
		}
	}
}

func TestCopiesOfAWriterDontTouchEachOther(t *testing.T) {
	for laid := range 40 {
		var w octets.Writer
		for i := range laid {
			w.Num(i)
		}
		start := string(w.Bytes())
		a, b := w, w
		a.Text("a")
		w.Text("the first")
		b.Num(7)
		c := b
		c.Num(8)
		b.Num(9)
		for _, x := range []struct {
			w    *octets.Writer
			want string
		}{{&a, "\x01a"}, {&w, "\x09the first"}, {&b, "\x07\x09"}, {&c, "\x07\x08"}} {
			if string(x.w.Bytes()) != start+x.want {
				t.Fatalf("a copy behind %d bytes: %q, not %q", laid, x.w.Bytes(), start+x.want)
			}
		}
		old := a
		a.Num(1)
		kept := a
		a = old
		a.Num(2)
		if string(kept.Bytes()) != start+"\x01a\x01" || string(a.Bytes()) != start+"\x01a\x02" {
			t.Fatalf("a writer that was set back: %q, and its copy %q", a.Bytes(), kept.Bytes())
		}
	}
}

func TestBytesAnswersNewMemory(t *testing.T) {
	for laid := range 70 {
		var w octets.Writer
		var want []byte
		for i := range laid {
			w.Num(i)
			want = append(want, byte(i))
		}
		first, second := w.Bytes(), w.Bytes()
		room := first[:cap(first)]
		for i := range room {
			room[i] = 0xee
		}
		_ = append(first, 0xee)
		if room := second[:cap(second)]; slices.Contains(room, 0xee) {
			t.Fatalf("behind %d bytes: two answers share memory", laid)
		}
		if !bytes.Equal(w.Bytes(), want) {
			t.Fatalf("behind %d bytes: the writer shares its answer's memory: % x", laid, w.Bytes())
		}
		w.Num(1)
		w.Text("b")
		if !bytes.Equal(second, want) || slices.Contains(room, 1) || !bytes.Equal(w.Bytes(), append(want, 1, 1, 'b')) {
			t.Fatalf("behind %d bytes: what is laid down later changes an answer", laid)
		}
	}
}

func TestNilWriter(t *testing.T) {
	var w *octets.Writer
	for _, n := range []int{0, 1, 128, -1, math.MaxInt, math.MinInt} {
		w.Num(n)
	}
	w.Text("")
	w.Text("ab")
	w.Text(strings.Repeat("a", 1000))
	if len(w.Bytes()) != 0 {
		t.Errorf("a nil writer: % x", w.Bytes())
	}
}

func TestReaderOfTheDocument(t *testing.T) {
	r := octets.NewReader([]byte("\x05\x02ab"))
	checkReader(t, "a reader of 05 02 61 62", r, 4, api.OK)
	if n := r.Num(); n != 5 {
		t.Errorf("Num = %d", n)
	}
	checkReader(t, "behind a number", r, 3, api.OK)
	if s := r.Text(2); s != "ab" {
		t.Errorf("Text = %q", s)
	}
	checkReader(t, "behind all", r, 0, api.OK)
	if n := r.Num(); n != 0 {
		t.Errorf("Num of nothing = %d", n)
	}
	checkReader(t, "behind the end", r, 0, api.ErrShort)
	for _, c := range []struct {
		b    string
		most int
		want string
		left int
		e    api.Errno
	}{
		{"\x02ab", 1, "", 3, api.ErrForm},
		{"\x02ab", 2, "ab", 0, api.OK},
		{"\x02ab", 3, "ab", 0, api.OK},
		{"\x02abc", 2, "ab", 1, api.OK},
		{"\x02a", 9, "", 2, api.ErrShort},
		{"\x02", 9, "", 1, api.ErrShort},
		{"\x02a", 1, "", 2, api.ErrForm}, // both errors: the one named first
		{"\x02", 0, "", 1, api.ErrForm},
		{"", 9, "", 0, api.ErrShort},
		{"", -1, "", 0, api.ErrShort},
		{"\x00", 0, "", 0, api.OK},
		{"\x00", -1, "", 0, api.OK},
		{"\x00", math.MinInt, "", 0, api.OK},
		{"\x00a", math.MaxInt, "", 1, api.OK},
		{"\x01a", -1, "", 2, api.ErrForm},
		{"\x01a", math.MinInt, "", 2, api.ErrForm},
		{"\x01a", math.MaxInt, "a", 0, api.OK},
		{"\x80", 9, "", 1, api.ErrShort},
		{"\x80\x00", 9, "", 2, api.ErrForm},
		{"\x80\x00a", 0, "", 3, api.ErrForm},
		{"\xff\xff\xff\xff\xff\xff\xff\xff\x7fa", math.MaxInt, "", 10, api.ErrShort},
		{"\xff\xff\xff\xff\xff\xff\xff\xff\x7fa", math.MaxInt - 1, "", 10, api.ErrForm},
		{"\xff\xff\xff\xff\xff\xff\xff\xff\xff\x00", math.MaxInt, "", 10, api.ErrForm},
	} {
		what := fmt.Sprintf("Text(%d) of % x", c.most, c.b)
		r := octets.NewReader([]byte(c.b))
		if s := r.Text(c.most); s != c.want {
			t.Errorf("%s = %q", what, s)
		}
		checkReader(t, what, r, c.left, c.e)
		if c.e != api.OK {
			checkStuck(t, what, r)
		}
	}
}

func TestNumOfWrongForms(t *testing.T) {
	for _, c := range []struct {
		b string
		e api.Errno
	}{
		{"", api.ErrShort}, {"\x80", api.ErrShort}, {"\xff\xff", api.ErrShort}, {strings.Repeat("\x80", 8), api.ErrShort}, {strings.Repeat("\xff", 8), api.ErrShort},
		{"\x80\x00", api.ErrForm}, {"\xff\x00", api.ErrForm}, {"\x81\x80\x00", api.ErrForm}, {"\x80\x00\x01", api.ErrForm}, {strings.Repeat("\xff", 8) + "\x00", api.ErrForm},
		{strings.Repeat("\x80", 9), api.ErrForm}, {strings.Repeat("\x80", 9) + "\x01", api.ErrForm}, {strings.Repeat("\xff", 9), api.ErrForm}, {strings.Repeat("\xff", 9) + "\x01", api.ErrForm},
		{strings.Repeat("\x80", 8) + "\x80", api.ErrForm}, {strings.Repeat("\xff", 1000), api.ErrForm}, {strings.Repeat("\x80", 9) + "\x00", api.ErrForm},
	} {
		what := fmt.Sprintf("Num of % .40x", c.b)
		r := octets.NewReader([]byte(c.b))
		if n := r.Num(); n != 0 {
			t.Errorf("%s = %d", what, n)
		}
		checkReader(t, what, r, len(c.b), c.e)
		checkStuck(t, what, r)
	}
}

func TestNumOfAllEdges(t *testing.T) {
	for _, n := range edges() {
		form := oracleNum(n)
		for _, behind := range []string{"", "\x00", "\xff", "\x01more"} {
			r := octets.NewReader(append(oracleNum(n), behind...))
			if got := r.Num(); got != n {
				t.Errorf("Num of % x = %d", form, got)
			}
			checkReader(t, "behind its form", r, len(behind), api.OK)
		}
		for cut := range len(form) {
			r := octets.NewReader(form[:cut])
			if got := r.Num(); got != 0 {
				t.Errorf("Num of % x = %d", form[:cut], got)
			}
			checkReader(t, "a form that is cut off", r, cut, api.ErrShort)
		}
	}
}

// shortBytes: all bytes of at most so many among those that are edges.
func shortBytes(most int) [][]byte {
	all, last := [][]byte{nil}, [][]byte{nil}
	for range most {
		var next [][]byte
		for _, b := range last {
			for _, c := range []byte{0, 1, 2, 3, 127, 128, 129, 255} {
				next = append(next, append(slices.Clone(b), c))
			}
		}
		all, last = append(all, next...), next
	}
	return all
}

// checkCalls makes the calls of the plan (a number by -2, else a text of so many
// bytes) of a reader, and holds each against the oracle. It answers what a writer
// laid down that was given all that the reader took.
func checkCalls(t *testing.T, b []byte, plan []int) []byte {
	t.Helper()
	r, o := octets.NewReader(b), &oracle{b: b}
	var w octets.Writer
	for _, most := range plan {
		at := o.at
		if most == -2 {
			n, want := r.Num(), o.num()
			if n != want {
				t.Fatalf("% x at %d: Num = %d, not %d", b, at, n, want)
			}
			if o.err == api.OK {
				w.Num(n)
			}
		} else {
			s, want := r.Text(most), o.text(most)
			if s != want {
				t.Fatalf("% x at %d: Text(%d) = %q, not %q", b, at, most, s, want)
			}
			if o.err == api.OK {
				w.Text(s)
			}
		}
		checkReader(t, fmt.Sprintf("% x behind %v", b, plan), r, len(b)-o.at, o.err)
	}
	if laid := w.Bytes(); !bytes.Equal(laid, b[:o.at]) {
		t.Fatalf("% x: a writer lays what was taken down as % x", b[:o.at], laid)
	}
	return w.Bytes()
}

func TestReaderOfAllShortBytes(t *testing.T) {
	for _, b := range shortBytes(5) {
		for _, plan := range [][]int{{-2, -2, -2}, {3, 3}, {0, -2}, {1, -2, 2}, {-1, -2}, {-2, 2, -2, math.MaxInt}} {
			checkCalls(t, b, plan)
		}
	}
}

func TestReaderOfLongForms(t *testing.T) {
	for size := range 12 {
		for _, high := range []byte{0x80, 0x81, 0xff} {
			for _, last := range []byte{0, 1, 64, 127, 128, 255} {
				b := append(bytes.Repeat([]byte{high}, size), last)
				for _, plan := range [][]int{{-2, -2}, {math.MaxInt, -2}, {0, 0}} {
					checkCalls(t, b, plan)
					checkCalls(t, append(slices.Clone(b), "ab"...), plan)
				}
			}
		}
	}
}

func TestNewReaderNeitherChangesNorKeepsItsBytes(t *testing.T) {
	for _, given := range []string{"\x05\x02ab\x03xyz", "\x05\x02ab\x03xy", "\x05\x02ab\x80\x00z"} {
		room := []byte(given + "spare room")
		before := slices.Clone(room)
		r := octets.NewReader(room[:len(given)])
		if r.Num() != 5 || r.Text(9) != "ab" {
			t.Fatalf("a reader of %q", given)
		}
		r.Text(9)
		if !bytes.Equal(room, before) {
			t.Errorf("a reader changed %q to %q", before, room)
		}
		r = octets.NewReader(room[:len(given)])
		for i := range room {
			room[i] = 0
		}
		if r.Left() != len(given) || r.Num() != 5 || r.Text(9) != "ab" || r.Left() != len(given)-4 {
			t.Errorf("a reader of %q keeps the bytes that it was given", given)
		}
	}
}

func TestReaderOfNothing(t *testing.T) {
	for what, r := range map[string]*octets.Reader{
		"of nil": octets.NewReader(nil), "of the empty list": octets.NewReader([]byte{}), "of no bytes with spare room": octets.NewReader([]byte{1, 2, 3}[:0]),
		"the zero Reader": new(octets.Reader),
	} {
		checkReader(t, what, r, 0, api.OK)
		if s := r.Text(9); s != "" {
			t.Errorf("%s: Text = %q", what, s)
		}
		checkReader(t, what, r, 0, api.ErrShort)
		checkStuck(t, what, r)
	}
}

func TestNilReader(t *testing.T) {
	var r *octets.Reader
	checkReader(t, "a nil reader", r, 0, api.ErrNil)
	checkStuck(t, "a nil reader", r)
}

func TestReadersDontTouchEachOther(t *testing.T) {
	b := []byte("\x05\x02ab")
	a, c := octets.NewReader(b), octets.NewReader(b)
	if a.Num() != 5 || c.Left() != 4 || a.Text(1) != "" || a.Err() != api.ErrForm || c.Err() != api.OK || c.Num() != 5 || c.Text(2) != "ab" || a.Left() != 3 {
		t.Error("two readers of the same bytes")
	}
}

func TestSumOfTheDocument(t *testing.T) {
	for s, want := range map[string]uint32{"123456789": 0xcbf43926, "": 0, "a": 0xe8b7be43} {
		if x := octets.Sum([]byte(s)); x != want {
			t.Errorf("Sum(%q) = %x, not %x", s, x, want)
		}
	}
	if octets.Sum(nil) != 0 {
		t.Error("Sum(nil)")
	}
}

func TestSumIsTheCRCOfZip(t *testing.T) {
	dice := rand.New(rand.NewSource(2))
	for size := range 300 {
		b := make([]byte, size)
		dice.Read(b)
		for _, b := range [][]byte{b, make([]byte, size), bytes.Repeat([]byte{0xff}, size)} {
			room := append(slices.Clone(b), "spare room"...)
			before := slices.Clone(room)
			if x, want := octets.Sum(room[:size]), crc32.ChecksumIEEE(b); x != want {
				t.Fatalf("Sum(% x) = %x, not %x", b, x, want)
			}
			if !bytes.Equal(room, before) {
				t.Fatalf("Sum changed % x", before)
			}
		}
	}
}

func TestSumTellsOneByte(t *testing.T) {
	dice := rand.New(rand.NewSource(3))
	long := make([]byte, 200)
	dice.Read(long)
	for _, b := range [][]byte{{0}, {255}, []byte("ab"), make([]byte, 60), bytes.Repeat([]byte{0xff}, 47), long} {
		for at, was := range b {
			seen := map[uint32]byte{}
			for c := range 256 {
				b[at] = byte(c)
				x := octets.Sum(b)
				if other, is := seen[x]; is {
					t.Fatalf("of %d bytes: %x and %x at %d have one checksum", len(b), other, c, at)
				}
				seen[x] = byte(c)
			}
			b[at] = was
		}
	}
}

func TestFour(t *testing.T) {
	for x, want := range map[uint32]string{
		0: "\x00\x00\x00\x00", 1: "\x01\x00\x00\x00", 256: "\x00\x01\x00\x00", 1 << 16: "\x00\x00\x01\x00", 1 << 24: "\x00\x00\x00\x01",
		0x04030201: "\x01\x02\x03\x04", 4294967295: "\xff\xff\xff\xff", 0xcbf43926: "\x26\x39\xf4\xcb",
	} {
		if b := octets.Four(x); string(b) != want {
			t.Errorf("Four(%d) = % x, not % x", x, b, want)
		}
		for _, behind := range []string{"", "\x00", "\xff", "more bytes"} {
			b := []byte(want + behind)
			if back, ok := octets.OfFour(b); back != x || !ok {
				t.Errorf("OfFour(% x) = %d, %v", b, back, ok)
			}
			if string(b) != want+behind {
				t.Errorf("OfFour changed its bytes to % x", b)
			}
		}
	}
}

func TestFourAndBackOfEveryBit(t *testing.T) {
	for k := range 32 {
		for _, x := range []uint32{1 << k, ^uint32(1 << k), 1<<k - 1} {
			if !bytes.Equal(octets.Four(x), binary.LittleEndian.AppendUint32(nil, x)) {
				t.Errorf("Four(%x) = % x", x, octets.Four(x))
			}
			if back, ok := octets.OfFour(octets.Four(x)); back != x || !ok {
				t.Errorf("OfFour(Four(%x)) = %x, %v", x, back, ok)
			}
		}
	}
}

func TestOfFourOfFewerBytes(t *testing.T) {
	room := []byte{1, 2, 3, 4, 5, 6, 7, 8}
	for size := range 4 {
		for _, b := range [][]byte{room[:size], slices.Clone(room[:size])} {
			if x, ok := octets.OfFour(b); x != 0 || ok {
				t.Errorf("OfFour of %d bytes = %d, %v", size, x, ok)
			}
		}
	}
	if x, ok := octets.OfFour(nil); x != 0 || ok {
		t.Errorf("OfFour(nil) = %d, %v", x, ok)
	}
	if x, ok := octets.OfFour([]byte{0, 1, 0, 0, 255}); x != 256 || !ok {
		t.Errorf("OfFour(00 01 00 00 ff) = %d, %v", x, ok)
	}
}

func TestFourAnswersNewMemory(t *testing.T) {
	first, second := octets.Four(0x01020304), octets.Four(0x01020304)
	room := first[:cap(first)]
	for i := range room {
		room[i] = 0xee
	}
	if slices.Contains(second[:cap(second)], 0xee) || slices.Contains(octets.Four(0x01020304), 0xee) {
		t.Error("two answers of Four share memory")
	}
}

// anyNum: a number of any size, also below 0.
func anyNum(dice *rand.Rand) int { return int(dice.Uint64()) >> dice.Intn(64) }

func TestThereAndBack(t *testing.T) {
	dice := rand.New(rand.NewSource(4))
	for range 400 {
		var w octets.Writer
		var takes []func(*octets.Reader)
		var want []byte
		for range dice.Intn(40) {
			if dice.Intn(2) == 0 {
				n := anyNum(dice)
				w.Num(n)
				want = append(want, oracleNum(n)...)
				takes = append(takes, func(r *octets.Reader) {
					if got := r.Num(); got != max(n, 0) {
						t.Fatalf("Num: %d, where %d was laid down", got, n)
					}
				})
				continue
			}
			b := make([]byte, dice.Intn(1<<dice.Intn(10)))
			dice.Read(b)
			s, most := string(b), len(b)
			if dice.Intn(2) == 0 {
				most += dice.Intn(1000)
			}
			w.Text(s)
			want = append(want, oracleText(s)...)
			takes = append(takes, func(r *octets.Reader) {
				if got := r.Text(most); got != s {
					t.Fatalf("Text(%d): %q, where %q was laid down", most, got, s)
				}
			})
		}
		if !bytes.Equal(w.Bytes(), want) {
			t.Fatalf("laid down: % x, not % x", w.Bytes(), want)
		}
		r := octets.NewReader(w.Bytes())
		for _, take := range takes {
			take(r)
		}
		checkReader(t, "behind all that was laid down", r, 0, api.OK)
	}
}

func TestOneFormOfAnyBytes(t *testing.T) {
	dice := rand.New(rand.NewSource(5))
	taken := 0
	for range 20000 {
		b := make([]byte, dice.Intn(40))
		for i := range b {
			switch dice.Intn(4) {
			case 0:
				b[i] = byte(dice.Intn(4))
			case 1:
				b[i] = byte(dice.Intn(256))
			case 2:
				b[i] = byte(128 + dice.Intn(128))
			default:
				b[i] = byte(dice.Intn(128))
			}
		}
		plan := make([]int, dice.Intn(12))
		for i := range plan {
			plan[i] = -2 + dice.Intn(2)*dice.Intn(20)
		}
		taken += len(checkCalls(t, b, plan))
	}
	if taken < 20000 {
		t.Errorf("only %d bytes were taken in all", taken)
	}
}

func TestALongTextEnds(t *testing.T) {
	long := strings.Repeat("\x00\xffab", 1<<20)
	var w octets.Writer
	w.Num(1)
	w.Text(long)
	w.Num(2)
	b := w.Bytes()
	r := octets.NewReader(b)
	if r.Num() != 1 || r.Text(len(long)) != long || r.Num() != 2 || r.Left() != 0 || r.Err() != api.OK {
		t.Error("a long text isn't there and back")
	}
	if octets.Sum(b) != crc32.ChecksumIEEE(b) {
		t.Error("Sum of many bytes")
	}
	r = octets.NewReader(b)
	if r.Num() != 1 || r.Text(len(long)-1) != "" || r.Err() != api.ErrForm || r.Left() != len(b)-1 {
		t.Error("a long text, one byte above most")
	}
}

func TestManyNumbersEnd(t *testing.T) {
	const many = 1 << 20
	var w octets.Writer
	for i := range many {
		w.Num(i)
	}
	r := octets.NewReader(w.Bytes())
	for i := range many {
		if n := r.Num(); n != i {
			t.Fatalf("number %d of many is %d", i, n)
		}
	}
	checkReader(t, "behind many numbers", r, 0, api.OK)
}
