package buf

import (
	"math"
	"math/rand"
	"strings"
	"testing"

	"crier/api"
)

// filled is a buffer with room for max bytes, into which s was written.
func filled(t *testing.T, max int, s string) *Buf {
	t.Helper()
	b, err := New(max)
	if err != api.OK || b == nil {
		t.Fatalf("New(%d): %v, %v", max, b, err)
	}
	b.Write(s)
	return b
}

// stands says whether what b tells of itself is that it holds s, with room for more.
func stands(t *testing.T, b *Buf, s string, room int) {
	t.Helper()
	if b.Len() != len(s) || b.Room() != room || b.Peek(math.MaxInt) != s {
		t.Errorf("it holds %q (%d), room %d; want %q, %d", b.Peek(math.MaxInt), b.Len(), b.Room(), s, room)
	}
}

// P4.1, P4.2: the chapter's example.
func TestExample(t *testing.T) {
	b, err := New(5)
	if err != api.OK {
		t.Fatal(err)
	}
	if n := b.Write("abc"); n != 3 {
		t.Error("Write(abc)", n)
	}
	if n := b.Write("defg"); n != 2 {
		t.Error("Write(defg)", n)
	}
	if s := b.Peek(2); s != "ab" {
		t.Error("Peek(2)", s)
	}
	if s := b.Read(4); s != "abcd" {
		t.Error("Read(4)", s)
	}
	if n := b.Room(); n != 4 {
		t.Error("Room", n)
	}
	if n := b.Find("e"); n != 0 {
		t.Error("Find(e)", n)
	}
	if n := b.Find("a"); n != -1 {
		t.Error("Find(a)", n)
	}
}

// P4.1: New takes 0 to 2^30, and makes an empty buffer.
func TestNew(t *testing.T) {
	for _, max := range []int{0, 1, 5, 4096, 1<<30 - 1, 1 << 30} {
		stands(t, filled(t, max, ""), "", max)
	}
	for _, max := range []int{-1, -5, math.MinInt, 1<<30 + 1, 1 << 31, 1 << 32, math.MaxInt} {
		if b, err := New(max); b != nil || err != api.ErrArg {
			t.Errorf("New(%d): %v, %v", max, b, err)
		}
	}
}

// P4.1: Write takes what there is room for, behind the others.
func TestWrite(t *testing.T) {
	for _, c := range []struct {
		max     int
		had, s  string
		n, room int
		has     string
	}{
		{5, "", "", 0, 5, ""},
		{5, "", "abcd", 4, 1, "abcd"},
		{5, "", "abcde", 5, 0, "abcde"},
		{5, "", "abcdef", 5, 0, "abcde"},
		{5, "abc", "", 0, 2, "abc"},
		{5, "abc", "d", 1, 1, "abcd"},
		{5, "abc", "de", 2, 0, "abcde"},
		{5, "abc", "def", 2, 0, "abcde"},
		{5, "abcde", "f", 0, 0, "abcde"},
		{0, "", "a", 0, 0, ""},
		{0, "", "", 0, 0, ""},
		{3, "", "\x00\xff\r\n", 3, 0, "\x00\xff\r"},
	} {
		b := filled(t, c.max, c.had)
		if n := b.Write(c.s); n != c.n {
			t.Errorf("Write(%q) behind %q of %d: %d, want %d", c.s, c.had, c.max, n, c.n)
		}
		stands(t, b, c.has, c.room)
	}
}

// P4.1: room that reading made is room for writing.
func TestWriteAfterRead(t *testing.T) {
	b := filled(t, 5, "abcde")
	b.Read(3)
	if n := b.Write("fghi"); n != 3 {
		t.Error(n)
	}
	stands(t, b, "defgh", 0)
}

// P4.2: Read takes the first bytes, Peek leaves them.
func TestReadPeek(t *testing.T) {
	for _, c := range []struct {
		n          int
		told, left string
	}{
		{math.MinInt, "", "abcde"}, {-1, "", "abcde"}, {0, "", "abcde"}, {1, "a", "bcde"}, {4, "abcd", "e"},
		{5, "abcde", ""}, {6, "abcde", ""}, {1 << 31, "abcde", ""}, {math.MaxInt, "abcde", ""},
	} {
		b := filled(t, 7, "abcde")
		if s := b.Peek(c.n); s != c.told {
			t.Errorf("Peek(%d): %q", c.n, s)
		}
		stands(t, b, "abcde", 2)
		if s := b.Read(c.n); s != c.told {
			t.Errorf("Read(%d): %q", c.n, s)
		}
		stands(t, b, c.left, 7-len(c.left))
	}
	b := filled(t, 7, "")
	if b.Read(3) != "" || b.Peek(3) != "" {
		t.Error("bytes of an empty buffer")
	}
	stands(t, b, "", 7)
}

// P4.2: Find is the first place of a text among the bytes that are there.
func TestFind(t *testing.T) {
	for _, c := range []struct {
		has, s string
		at     int
	}{
		{"abcabc", "abc", 0}, {"abcabc", "bc", 1}, {"abcabc", "c", 2}, {"abcabc", "ca", 2}, {"abcabc", "abcabc", 0},
		{"abcabc", "abcabca", -1}, {"abcabc", "cc", -1}, {"abcabc", "d", -1}, {"abcabc", "", 0},
		{"aaab", "aab", 1}, {"a\r\n\r\nb", "\r\n\r\n", 1}, {"a\r\nb\r\n\r\n", "\r\n\r\n", 4}, {"\x00\xff", "\xff", 1},
		{"\xc3\xa9", "\xa9", 1}, {"ABC", "b", -1},
		{"", "a", -1}, {"", "", 0},
	} {
		b := filled(t, 10, c.has)
		if at := b.Find(c.s); at != c.at {
			t.Errorf("Find(%q) in %q: %d, want %d", c.s, c.has, at, c.at)
		}
		stands(t, b, c.has, 10-len(c.has))
	}
	if at := filled(t, 0, "").Find(""); at != 0 {
		t.Error("the empty text without room:", at)
	}
}

// P4.2: what is gone, and what found no room, is not found, nor a text that lies across the two.
func TestFindBehindGone(t *testing.T) {
	for gone := range 8 {
		b := filled(t, 8, "abcdabce?!")
		b.Read(gone)
		for _, s := range []string{"a", "ab", "abc", "d", "e", "da", "?", "e?", ""} {
			if at, want := b.Find(s), strings.Index("abcdabce"[gone:], s); at != want {
				t.Errorf("Find(%q) behind %d: %d, want %d", s, gone, at, want)
			}
		}
	}
}

// P4.2: a nil buffer, and one that New did not make, have no bytes and no room; Find is -1.
func TestNotMade(t *testing.T) {
	for name, b := range map[string]*Buf{"nil": nil, "not made": {}} {
		for _, s := range []string{"", "a", "abc"} {
			if n := b.Write(s); n != 0 {
				t.Errorf("%s: Write(%q): %d", name, s, n)
			}
			if at := b.Find(s); at != -1 {
				t.Errorf("%s: Find(%q): %d", name, s, at)
			}
		}
		for _, n := range []int{math.MinInt, -1, 0, 1, math.MaxInt} {
			if b.Read(n) != "" || b.Peek(n) != "" {
				t.Errorf("%s: bytes", name)
			}
		}
		if b.Len() != 0 || b.Room() != 0 {
			t.Errorf("%s: Len %d, Room %d", name, b.Len(), b.Room())
		}
	}
}

// P4.3: whatever is written and read, a text that is cut at its front and grows at its end says the same.
func TestAgainstText(t *testing.T) {
	r := rand.New(rand.NewSource(4))
	for _, max := range []int{0, 1, 2, 3, 7, 64, 1000} {
		b, plain := filled(t, max, ""), ""
		var written, read strings.Builder
		for range 5000 {
			s := letters(r, r.Intn(max+3))
			if n, want := b.Write(s), min(len(s), max-len(plain)); n != want {
				t.Fatalf("Write of %d: %d, want %d", len(s), n, want)
			} else {
				plain += s[:n]
				written.WriteString(s[:n])
			}
			if b.Len() > max {
				t.Fatalf("%d bytes where %d may be", b.Len(), max)
			}
			n := r.Intn(max+4) - 1
			want := plain[:clamp(n, len(plain))]
			if got := b.Peek(n); got != want {
				t.Fatalf("Peek(%d): %q, want %q", n, got, want)
			}
			if part := letters(r, r.Intn(3)); b.Find(part) != strings.Index(plain, part) {
				t.Fatalf("Find(%q) in %q: %d", part, plain, b.Find(part))
			}
			if got := b.Read(n); got != want {
				t.Fatalf("Read(%d): %q, want %q", n, got, want)
			}
			read.WriteString(want)
			plain = plain[len(want):]
			stands(t, b, plain, max-len(plain))
		}
		if read.String()+b.Read(max) != written.String() {
			t.Error("what was read is not what was written")
		}
	}
}

// letters are n of four letters.
func letters(r *rand.Rand, n int) string {
	s := make([]byte, n)
	for i := range s {
		s[i] = "abcd"[r.Intn(4)]
	}
	return string(s)
}

// clamp is n, but from 0 to most.
func clamp(n, most int) int {
	return max(0, min(n, most))
}

// R3: buffers know nothing of one another.
func TestApart(t *testing.T) {
	a, b := filled(t, 4, "ab"), filled(t, 4, "cd")
	a.Read(1)
	b.Write("e")
	stands(t, a, "b", 3)
	stands(t, b, "cde", 1)
}

// P4.3, R4: what was told stays as it was, whatever is done to the buffer then.
func TestToldStays(t *testing.T) {
	b := filled(t, 8, "abcdefgh")
	peeked, read := b.Peek(8), b.Read(6)
	b.Write("zzzzzz")
	b.Read(3)
	b.Write("yyy")
	if peeked != "abcdefgh" || read != "abcdef" {
		t.Errorf("%q, %q", peeked, read)
	}
}

// R1: many small pieces, with many bytes waiting, come to an end soon.
func TestMany(t *testing.T) {
	const many = 1 << 20
	b := filled(t, many, strings.Repeat("a", many))
	for i := range 2 * many {
		if b.Read(1) != "a" || b.Write("ab") != 1 {
			t.Fatal("at", i)
		}
	}
	for i := range many {
		if b.Read(1) != "a" || b.Len() != many-i-1 {
			t.Fatal("at", i)
		}
	}
	stands(t, b, "", many)
}

// A buffer keeps no more memory than its bytes need, some three times as much at most.
func TestKept(t *testing.T) {
	b := filled(t, 1<<20, strings.Repeat("a", 1<<20))
	b.Read(1<<20 - 10)
	if kept := cap(b.bytes); kept > 64 {
		t.Errorf("%d bytes are kept of 10", kept)
	}
	for range 1 << 16 {
		b.Write("abc")
		b.Read(3)
	}
	if kept := cap(b.bytes); kept > 64 {
		t.Errorf("%d bytes are kept of 10", kept)
	}
	b.Read(10)
	if kept := cap(b.bytes); kept != 0 {
		t.Errorf("%d bytes are kept of none", kept)
	}
}
