package paths_test

import (
	"math/rand"
	"regexp"
	"slices"
	"strings"
	"testing"

	"sublet/api"
	"sublet/paths"
)

// pathForm says what a path is in another way than the package does.
var pathForm = regexp.MustCompile(`\A([a-z0-9]{1,6}(/[a-z0-9]{1,6}){0,3})?\z`)

// noPaths are texts that are nearly paths, each for one fault.
var noPaths = []string{
	"/", "//", "/a", "a/", "a//b", "a/b/", "a/b/c/d/", "/a/b/c", "a/b/c//d",
	"abcdefg", "a/abcdefg", "a/b/c/abcdefg", "abcdefg/a", "0123456",
	"a/b/c/d/e", "a/b/c/d/e/f", "abcdef/abcdef/abcdef/abcdef/a",
	"A", "a/B", "aZ", "a b", " a", "a ", " ", "a/ /b", "a.b", ".", "..", "a/../b", "-", "a-b", "_",
	"a\n", "\n", "a\x00", "\x00", "a/b\r", "\xff", "a\xc3", "\u00e9", "a/\u00df", "\u0661", "a\\b",
}

// allPaths: all paths whose segments are among these, shorter ones first.
func allPaths(segs ...string) []string {
	all, last := []string{""}, []string{""}
	for range api.MaxSegs {
		var next []string
		for _, p := range last {
			for _, s := range segs {
				next = append(next, strings.TrimPrefix(p+"/"+s, "/"))
			}
		}
		all, last = append(all, next...), next
	}
	return all
}

// segments: those of what is known to be a path.
func segments(p string) []string {
	if p == "" {
		return nil
	}
	return strings.Split(p, "/")
}

// begins: are the segments of p the first ones of q?
func begins(p, q string) bool {
	a, b := segments(p), segments(q)
	return len(a) <= len(b) && slices.Equal(a, b[:len(a)])
}

// checkForm holds the four calls that tell a path from another text against pathForm.
func checkForm(t *testing.T, p string) {
	t.Helper()
	is, depth := paths.Valid(p), paths.Depth(p)
	segs, e := paths.Split(p)
	if !pathForm.MatchString(p) {
		if is || e != api.ErrPath || len(segs) != 0 || depth != -1 {
			t.Errorf("%.60q is no path: Valid %v, Split %q %d, Depth %d", p, is, segs, e, depth)
		}
		return
	}
	want := segments(p)
	if !is || e != api.OK || !slices.Equal(segs, want) || depth != len(want) {
		t.Errorf("%q is a path: Valid %v, Split %q %d, Depth %d", p, is, segs, e, depth)
	}
}

func TestPathsOfTheDocument(t *testing.T) {
	for _, p := range []string{"", "a", "a/b2/c", "a/b/c/d", "z", "0", "9", "a0/9z"} {
		if !paths.Valid(p) {
			t.Errorf("Valid(%q) is false", p)
		}
		checkForm(t, p)
	}
	for _, p := range noPaths {
		if paths.Valid(p) {
			t.Errorf("Valid(%q) is true", p)
		}
		checkForm(t, p)
	}
}

func TestCountsAndSizesOfSegments(t *testing.T) {
	for count := 1; count <= api.MaxSegs+2; count++ {
		for size := 0; size <= api.MaxSeg+2; size++ {
			for at := range count {
				segs := slices.Repeat([]string{"abcdef"}, count)
				segs[at] = strings.Repeat("x", size)
				p := strings.Join(segs, "/")
				want := count <= api.MaxSegs && size >= 1 && size <= api.MaxSeg
				if count == 1 && size == 0 {
					want = true // no byte at all: the empty path
				}
				if paths.Valid(p) != want {
					t.Errorf("Valid(%q) is %v", p, !want)
				}
				checkForm(t, p)
			}
		}
	}
}

func TestEveryByte(t *testing.T) {
	const good = "abcdefghijklmnopqrstuvwxyz0123456789"
	for c := range 256 {
		b := string([]byte{byte(c)})
		want := strings.Contains(good, b)
		for _, p := range []string{b, b + "a", "a" + b, b + "/a", "a/" + b, "a/b/c/" + b, "abcde" + b} {
			if paths.Valid(p) != want {
				t.Errorf("Valid(%q) is %v", p, !want)
			}
			checkForm(t, p)
		}
		if between := "a" + b + "a"; paths.Valid(between) != (want || b == "/") {
			t.Errorf("Valid(%q) is wrong", between)
		}
	}
}

func TestEveryShortText(t *testing.T) {
	texts := []string{""}
	for range 8 {
		var next []string
		for _, p := range texts {
			checkForm(t, p)
			next = append(next, p+"a", p+"/", p+"Z")
		}
		texts = next
	}
	for _, p := range texts {
		checkForm(t, p)
	}
}

func TestLongTexts(t *testing.T) {
	const n = 1 << 22
	for _, part := range []string{"a", "/", "a/", "abcdef/", "A", "\xff"} {
		long := strings.Repeat(part, n/len(part))
		checkForm(t, long)
		if _, ok := paths.Meet(long, long); ok || paths.Covers("", long) || paths.Covers(long, "") || paths.Overlap(long, long) {
			t.Errorf("a long text of %q overlaps", part)
		}
		if paths.Compare(long, long) != 0 || paths.Compare(long, long+"a") != -1 || paths.Compare(long+"a", long) != 1 {
			t.Errorf("Compare of long texts of %q", part)
		}
		if p, e := paths.Join([]string{"a", long}); p != "" || e != api.ErrPath {
			t.Errorf("Join of a long text of %q = %.60q, %d", part, p, e)
		}
	}
	if p, e := paths.Join(slices.Repeat([]string{"a"}, n)); p != "" || e != api.ErrPath {
		t.Errorf("Join of a long list = %.60q, %d", p, e)
	}
}

func TestJoin(t *testing.T) {
	for _, c := range []struct {
		segs []string
		want string
	}{
		{nil, ""},
		{[]string{}, ""},
		{[]string{"a"}, "a"},
		{[]string{"a", "b"}, "a/b"},
		{[]string{"0", "9", "z"}, "0/9/z"},
		{[]string{"a", "b", "c", "d"}, "a/b/c/d"},
		{[]string{"abcdef", "123456", "zzzzzz", "a1b2c3"}, "abcdef/123456/zzzzzz/a1b2c3"},
	} {
		if p, e := paths.Join(c.segs); p != c.want || e != api.OK {
			t.Errorf("Join(%q) = %q, %d", c.segs, p, e)
		}
	}
	for _, s := range append([]string{"", "a/b", "a/b/c", "a/b/c/d"}, noPaths...) {
		for _, segs := range [][]string{{s}, {s, "a"}, {"a", s}, {"a", "b", "c", s}, {s, "a", "b", "c"}} {
			if p, e := paths.Join(segs); p != "" || e != api.ErrPath {
				t.Errorf("Join(%q) = %q, %d", segs, p, e)
			}
		}
	}
	for count := api.MaxSegs + 1; count < 2*api.MaxSegs+2; count++ {
		if p, e := paths.Join(slices.Repeat([]string{"a"}, count)); p != "" || e != api.ErrPath {
			t.Errorf("Join of %d segments = %q, %d", count, p, e)
		}
	}
}

func TestJoinOnlyReadsItsList(t *testing.T) {
	for _, fourth := range []string{"d", "", "D"} {
		room := []string{"a", "b", "c", fourth, "spare", "room"}
		before := slices.Clone(room)
		p, e := paths.Join(room[:4])
		if !slices.Equal(room, before) {
			t.Errorf("Join changed %q to %q", before, room)
		}
		for i := range room {
			room[i] = "other"
		}
		if fourth == "d" && (p != "a/b/c/d" || e != api.OK) {
			t.Errorf("Join = %q, %d", p, e)
		}
		if again, e := paths.Join(before[:3]); again != "a/b/c" || e != api.OK {
			t.Errorf("Join = %q, %d behind another Join", again, e)
		}
	}
}

func TestSplitAnswersNewMemory(t *testing.T) {
	for _, p := range allPaths("a", "abcdef") {
		want := segments(p)
		first, _ := paths.Split(p)
		second, _ := paths.Split(p)
		for i := range first {
			first[i] = "other"
		}
		room := first[:cap(first)]
		for i := range room {
			room[i] = "other"
		}
		_ = append(first, "more")
		third, _ := paths.Split(p)
		if !slices.Equal(second, want) || !slices.Equal(third, want) {
			t.Errorf("Split(%q) = %q, then %q, where another answer was written over", p, second, third)
		}
		if room := second[:cap(second)]; slices.Contains(room, "other") || slices.Contains(room, "more") {
			t.Errorf("two answers of Split(%q) share their spare room", p)
		}
	}
}

func TestDepth(t *testing.T) {
	for p, want := range map[string]int{
		"": 0, "a": 1, "abcdef": 1, "a/b": 2, "a/b/c": 3, "a/b/c/d": 4,
		"/": -1, "a/": -1, "a/b/c/d/e": -1, "abcdefg": -1, "A": -1,
	} {
		if n := paths.Depth(p); n != want {
			t.Errorf("Depth(%q) = %d, not %d", p, n, want)
		}
	}
}

func TestCoversOverlapMeetOfTheDocument(t *testing.T) {
	for _, c := range []struct {
		p, q         string
		covers, laps bool
		meet         string
	}{
		{"", "", true, true, ""},
		{"", "a", true, true, "a"},
		{"a", "", false, true, "a"},
		{"a", "a", true, true, "a"},
		{"a", "a/b", true, true, "a/b"},
		{"a/b", "a", false, true, "a/b"},
		{"a", "ab", false, false, ""},
		{"ab", "a", false, false, ""},
		{"a", "ab/c", false, false, ""},
		{"a/b", "a/c", false, false, ""},
		{"a/b", "a/bc", false, false, ""},
		{"a", "b", false, false, ""},
		{"b", "a/b", false, false, ""},
		{"a/b", "a/b/c/d", true, true, "a/b/c/d"},
		{"a/b/c/d", "a/b/c/d", true, true, "a/b/c/d"},
		{"a/b/c/d", "a/b/c/e", false, false, ""},
	} {
		if paths.Covers(c.p, c.q) != c.covers {
			t.Errorf("Covers(%q, %q) is %v", c.p, c.q, !c.covers)
		}
		if paths.Overlap(c.p, c.q) != c.laps {
			t.Errorf("Overlap(%q, %q) is %v", c.p, c.q, !c.laps)
		}
		if m, ok := paths.Meet(c.p, c.q); m != c.meet || ok != c.laps {
			t.Errorf("Meet(%q, %q) = %q, %v", c.p, c.q, m, ok)
		}
	}
}

func TestCoversOverlapMeetOfAllPairs(t *testing.T) {
	all := allPaths("a", "b", "ab", "0")
	for _, p := range all {
		for _, q := range all {
			down, up := begins(p, q), begins(q, p)
			if paths.Covers(p, q) != down || paths.Overlap(p, q) != (down || up) {
				t.Fatalf("%q, %q: Covers or Overlap is wrong", p, q)
			}
			want := ""
			if down {
				want = q
			} else if up {
				want = p
			}
			if m, ok := paths.Meet(p, q); m != want || ok != (down || up) {
				t.Fatalf("Meet(%q, %q) = %q, %v", p, q, m, ok)
			}
		}
	}
}

func TestNoPathOverlapsNothing(t *testing.T) {
	good := []string{"", "a", "a/b", "a/b/c", "a/b/c/d", "abcdef", "A"}
	for _, p := range noPaths {
		for _, q := range append(good, noPaths...) {
			if paths.Covers(p, q) || paths.Covers(q, p) || paths.Overlap(p, q) || paths.Overlap(q, p) {
				t.Errorf("%q, %q: they overlap", p, q)
			}
			if m, ok := paths.Meet(p, q); m != "" || ok {
				t.Errorf("Meet(%q, %q) = %q, %v", p, q, m, ok)
			}
			if m, ok := paths.Meet(q, p); m != "" || ok {
				t.Errorf("Meet(%q, %q) = %q, %v", q, p, m, ok)
			}
		}
	}
}

func TestCompareRises(t *testing.T) {
	rising := []string{
		"", "\x00", "\x00\x00", "\x01", "\n", " ", "-", "/", "//", "0", "9", "A", "Z", "a", "a\x00", "a ", "a/", "a//",
		"a/b", "a/b/c", "a/b/c/d/e/f", "a/b0", "a0", "aa", "aaaaaaaaaaaa", "ab", "b", "z", "\x7f", "\x80", "\u00e9", "\ud7ff", "\U0001f600", "\xff", "\xff\x00", "\xff\xff",
	}
	for i, p := range rising {
		for j, q := range rising {
			want := 0
			if i < j {
				want = -1
			} else if i > j {
				want = 1
			}
			if n := paths.Compare(p, q); n != want {
				t.Errorf("Compare(%q, %q) = %d, not %d", p, q, n, want)
			}
		}
	}
}

func TestCompareOfPathsGoesBySegments(t *testing.T) {
	all := allPaths("a", "ab", "0", "z")
	for _, p := range all {
		for _, q := range all {
			if n, want := paths.Compare(p, q), slices.Compare(segments(p), segments(q)); n != want {
				t.Fatalf("Compare(%q, %q) = %d, not %d", p, q, n, want)
			}
			if p != q && paths.Covers(p, q) && paths.Compare(p, q) != -1 {
				t.Fatalf("%q covers %q and doesn't come ahead of it", p, q)
			}
		}
	}
}

func TestSplitAndJoinAreThereAndBack(t *testing.T) {
	for _, p := range allPaths("a", "b2", "abcdef", "0") {
		segs, e := paths.Split(p)
		if e != api.OK {
			t.Fatalf("Split(%q): %d", p, e)
		}
		if back, e := paths.Join(segs); back != p || e != api.OK {
			t.Fatalf("Join(Split(%q)) = %q, %d", p, back, e)
		}
		want := segments(p)
		joined, _ := paths.Join(want)
		if back, e := paths.Split(joined); !slices.Equal(back, want) || e != api.OK {
			t.Fatalf("Split(Join(%q)) = %q, %d", want, back, e)
		}
	}
}

func TestCoversIsAnOrder(t *testing.T) {
	all := allPaths("a", "ab")
	for _, p := range all {
		if !paths.Covers(p, p) {
			t.Errorf("%q doesn't cover itself", p)
		}
		for _, q := range all {
			if p != q && paths.Covers(p, q) && paths.Covers(q, p) {
				t.Errorf("%q and %q cover one another", p, q)
			}
			if paths.Covers(p, q) != (paths.Overlap(p, q) && paths.Depth(q) >= paths.Depth(p)) {
				t.Errorf("%q, %q: Covers isn't what Overlap and Depth say", p, q)
			}
			for _, r := range all {
				if paths.Covers(p, q) && paths.Covers(q, r) && !paths.Covers(p, r) {
					t.Errorf("%q covers %q, that %q, and the first not the last", p, q, r)
				}
				if paths.Covers(p, r) && paths.Covers(q, r) && !paths.Overlap(p, q) {
					t.Errorf("%q and %q cover %q, and don't overlap", p, q, r)
				}
			}
		}
	}
}

func TestAnyTexts(t *testing.T) {
	dice := rand.New(rand.NewSource(1))
	text := func() string {
		const near = "ab0/zA \x00\xff/"
		b := make([]byte, dice.Intn(30))
		for i := range b {
			b[i] = near[dice.Intn(len(near))]
			if dice.Intn(20) == 0 {
				b[i] = byte(dice.Intn(256))
			}
		}
		return string(b)
	}
	for range 20000 {
		p, q := text(), text()
		checkForm(t, p)
		both := pathForm.MatchString(p) && pathForm.MatchString(q)
		if paths.Covers(p, q) != (both && begins(p, q)) {
			t.Fatalf("Covers(%q, %q) is wrong", p, q)
		}
		if n := paths.Compare(p, q); n != -paths.Compare(q, p) || (n == 0) != (p == q) {
			t.Fatalf("Compare(%q, %q) = %d", p, q, n)
		}
		if joined, e := paths.Join([]string{p, q}); e != api.OK && joined != "" {
			t.Fatalf("Join(%q, %q) = %q, %d", p, q, joined, e)
		}
	}
}
