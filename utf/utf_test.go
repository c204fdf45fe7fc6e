package utf

import (
	"slices"
	"strings"
	"testing"
	"unicode/utf8"
)

// edges are the bytes at which the chapter's ranges begin and end, and their neighbours.
var edges = []byte{
	0x00, 0x01, 0x41, 0x7e, 0x7f, 0x80, 0x81, 0x8e, 0x8f, 0x90, 0x91, 0x9e, 0x9f, 0xa0, 0xa1, 0xbe, 0xbf,
	0xc0, 0xc1, 0xc2, 0xc3, 0xde, 0xdf, 0xe0, 0xe1, 0xe2, 0xec, 0xed, 0xee, 0xef,
	0xf0, 0xf1, 0xf2, 0xf3, 0xf4, 0xf5, 0xf6, 0xf7, 0xf8, 0xfb, 0xfc, 0xfd, 0xfe, 0xff,
}

// said is how a check stands.
type said struct {
	fed, whole, bad bool
	at              int
}

// pieces are what a check says that was fed all of these.
func pieces(all ...string) said {
	c := New()
	last := true
	for _, s := range all {
		last = c.Feed(s)
	}
	return said{last, c.Whole(), c.Bad(), c.At()}
}

// wanted is what a check is to say of s, told by the library.
func wanted(s string) said {
	at := 0
	for at < len(s) {
		r, size := utf8.DecodeRuneInString(s[at:])
		if r == utf8.RuneError && size == 1 {
			break
		}
		at += size
	}
	if at == len(s) {
		return said{true, true, false, at}
	}
	for n := range len(s) - at {
		if utf8.FullRuneInString(s[at : at+n+1]) {
			return said{false, false, true, at + n}
		}
	}
	return said{true, false, false, len(s)}
}

// char is a place and what character stands there.
type char struct {
	at     int
	number rune
}

// runesOf are all that Runes tells of s.
func runesOf(s string) []char {
	var all []char
	for at, number := range Runes(s) {
		all = append(all, char{at, number})
	}
	return all
}

// runesWanted are what Runes is to tell of s, told by the library.
func runesWanted(s string) []char {
	var all []char
	for at := 0; at < len(s); {
		r, size := utf8.DecodeRuneInString(s[at:])
		if r == utf8.RuneError && size == 1 {
			break
		}
		all = append(all, char{at, r})
		at += size
	}
	return all
}

// right tells of s of which something is said that is wrong.
func right(t *testing.T, s string) {
	t.Helper()
	if got, want := pieces(s), wanted(s); got != want {
		t.Errorf("% x: %v, not %v", s, got, want)
	}
	if got := Valid(s); got != utf8.ValidString(s) {
		t.Errorf("Valid(% x): %v", s, got)
	}
	if got, want := runesOf(s), runesWanted(s); !slices.Equal(got, want) {
		t.Errorf("Runes(% x): %v, not %v", s, got, want)
	}
}

// P3.1: the chapter's example of a check that is fed in pieces.
func TestPieces(t *testing.T) {
	c := New()
	if !c.Feed("\xce\xba") || !c.Feed("\xe1\xbd") || c.Whole() || c.Bad() || !c.Feed("\xb9") || !c.Whole() || c.At() != 5 || c.Bad() {
		t.Error("the Greek letters are no text")
	}
}

// P3.1, P3.2: the chapter's example of a bad byte, and of bytes that are no text.
func TestBadExamples(t *testing.T) {
	c := New()
	if c.Feed("a\xed\xa0\x80") || !c.Bad() || c.At() != 2 || c.Whole() {
		t.Errorf("bad %v, at %d, whole %v", c.Bad(), c.At(), c.Whole())
	}
	if Valid("\xc0\x80") || Valid("\xf4\x90\x80\x80") || Valid("\xed\xa0\x80") {
		t.Error("Valid takes bytes that are no text")
	}
}

// P3.1: a new check read nothing, and nothing is a text.
func TestNew(t *testing.T) {
	c := New()
	if c == nil {
		t.Fatal("no check")
	}
	if !c.Whole() || c.Bad() || c.At() != 0 {
		t.Error("a new check read something")
	}
	if !c.Feed("") || !c.Whole() || c.Bad() || c.At() != 0 {
		t.Error("a check that was fed nothing read something")
	}
}

// P3.1: a nil check has read a bad byte, at 0, whatever it is fed.
func TestNilCheck(t *testing.T) {
	var c *Check
	for _, s := range []string{"", "a", "\xff", "\xce\xba"} {
		if c.Feed(s) || c.Whole() || !c.Bad() || c.At() != 0 {
			t.Errorf("a nil check, fed %q, stands otherwise", s)
		}
	}
}

// P3.1: a check that New did not make read nothing.
func TestCheckNotOfNew(t *testing.T) {
	for _, s := range []string{"", "a", "\xff", "\xce\xba", "\xe1\xbd", "a\xed\xa0\x80"} {
		var c Check
		if !c.Whole() || c.Bad() || c.At() != 0 {
			t.Error("it read something")
		}
		fed := c.Feed(s)
		if got := (said{fed, c.Whole(), c.Bad(), c.At()}); got != wanted(s) {
			t.Errorf("fed % x: %v, not %v", s, got, wanted(s))
		}
	}
}

// P3.1: behind the first bad byte nothing is read any more.
func TestBehindTheBadByte(t *testing.T) {
	for _, x := range []struct {
		s  string
		at int
	}{{"\xff", 0}, {"\x80", 0}, {"ab\xc1", 2}, {"\xc2a", 1}, {"\xe2\x82a", 2}, {"\xf0\x9f\x98\xc2", 3}, {"\xf0\x9f\x98\x80\x80", 4}} {
		c := New()
		if c.Feed(x.s) {
			t.Errorf("% x was taken", x.s)
		}
		for _, more := range []string{"", "a", "\x80", "\xac", "\xbf\xbf", "\xff", x.s, "text"} {
			if c.Feed(more) || c.Whole() || !c.Bad() || c.At() != x.at {
				t.Errorf("% x, then % x: whole %v, bad %v, at %d", x.s, more, c.Whole(), c.Bad(), c.At())
			}
		}
	}
}

// P3.1: a bad byte is told in the midst of what is fed, and what stands ahead of it is counted.
func TestBadInTheMidst(t *testing.T) {
	c := New()
	if !c.Feed("abc\xe2\x82") || c.At() != 5 || c.Whole() {
		t.Fatalf("at %d, whole %v", c.At(), c.Whole())
	}
	if c.Feed("\xacde\xf5fgh") || c.At() != 8 || !c.Bad() || c.Whole() {
		t.Errorf("at %d, bad %v, whole %v", c.At(), c.Bad(), c.Whole())
	}
}

// P3.1, P3.2: every byte alone, every two, and behind every two the edges.
func TestShort(t *testing.T) {
	right(t, "")
	for a := range 256 {
		right(t, string([]byte{byte(a)}))
		for b := range 256 {
			right(t, string([]byte{byte(a), byte(b)}))
			for _, c := range edges {
				right(t, string([]byte{byte(a), byte(b), c}))
			}
		}
	}
}

// P3.1, P3.2: four bytes, the first of them any that more than two belong to, or an edge.
func TestFour(t *testing.T) {
	for a := 0xdf; a < 256; a++ {
		for _, b := range edges {
			for _, c := range edges {
				for _, d := range edges {
					right(t, string([]byte{byte(a), b, c, d}))
				}
			}
		}
	}
}

// P3.1, P3.2: the third byte of three and the last two of four, every one.
func TestLastBytes(t *testing.T) {
	for _, begin := range []string{"\xe0\xa0", "\xe1\x80", "\xec\xbf", "\xed\x9f", "\xee\x80", "\xef\xbf", "\xf0\x90\x80", "\xf1\xbf\xbf", "\xf4\x8f\xbf"} {
		for b := range 256 {
			right(t, begin+string([]byte{byte(b)}))
			right(t, begin[:len(begin)-1]+string([]byte{byte(b)})+"\xbf")
			right(t, "x"+begin+string([]byte{byte(b)})+"y")
		}
	}
}

// P3.2: every character there is, alone; what lies between and beyond is none.
func TestAllCharacters(t *testing.T) {
	for number := range rune(0x110000) {
		if 0xd800 <= number && number <= 0xdfff {
			half := string([]byte{0xed, byte(0x80 | number>>6&0x3f), byte(0x80 | number&0x3f)})
			if Valid(half) || runesOf(half) != nil || pieces(half) != (said{false, false, true, 1}) {
				t.Errorf("% x was taken", half)
			}
			continue
		}
		s := string(number)
		if !Valid(s) || pieces(s) != (said{true, true, false, len(s)}) || !slices.Equal(runesOf(s), []char{{0, number}}) {
			t.Errorf("%x: Valid %v, %v, %v", number, Valid(s), pieces(s), runesOf(s))
		}
	}
	for _, s := range []string{"\xf4\x90\x80\x80", "\xf7\xbf\xbf\xbf", "\xf8\x88\x80\x80\x80", "\xfc\x84\x80\x80\x80\x80"} {
		right(t, s)
	}
}

// P3.2: characters of more bytes than they need are none.
func TestTooManyBytes(t *testing.T) {
	for number := range rune(0x10000) {
		two := string([]byte{byte(0xc0 | number>>6), byte(0x80 | number&0x3f)})
		three := string([]byte{byte(0xe0 | number>>12), byte(0x80 | number>>6&0x3f), byte(0x80 | number&0x3f)})
		four := string([]byte{0xf0, byte(0x80 | number>>12), byte(0x80 | number>>6&0x3f), byte(0x80 | number&0x3f)})
		if number < 0x80 && (Valid(two) || runesOf(two) != nil) {
			t.Errorf("%x in two bytes was taken", number)
		}
		if number < 0x800 && (Valid(three) || runesOf(three) != nil) {
			t.Errorf("%x in three bytes was taken", number)
		}
		if Valid(four) || runesOf(four) != nil {
			t.Errorf("%x in four bytes was taken", number)
		}
	}
}

// mixed are texts, and bytes that are none, of characters of all lengths.
var mixed = []string{
	"",
	"text",
	"\x00\x7f\xc2\x80\xdf\xbf\xe0\xa0\x80\xef\xbf\xbf\xf0\x90\x80\x80\xf4\x8f\xbf\xbf",
	"\xce\xba\xe1\xbd\xb9\xcf\x83\xce\xbc\xce\xb5",
	"a\xe2\x82\xacb\xf0\x9f\x98\x80c\xc3\xa9",
	"\xef\xbb\xbf\xef\xbf\xbd\xef\xbf\xbe",
	"\xce\xba\xed\xa0\x80edited",
	"a\xe2\x82\xac\xe2\x82",
	"\xf0\x9f\x98",
	"\xf0\x9f\x98\x80\xf0\x9f",
	"ok\xc0\xafno",
	"ok\xf5\x80\x80\x80",
	"\xc3\xa9\xc3",
	"\xc3\xc3\xa9",
	"\xe2\x28\xa1",
	"\xf0\x9f\x98\xff\x80",
}

// P3.3: however bytes are cut, in three or into single ones, with nothing fed in between, a check says the same.
func TestCuts(t *testing.T) {
	for _, s := range mixed {
		want := wanted(s)
		if got := pieces(strings.Split(s, "")...); got != want {
			t.Errorf("% x, a character a time: %v, not %v", s, got, want)
		}
		single := []string{""}
		for i := range len(s) {
			single = append(single, s[i:i+1], "")
		}
		if got := pieces(single...); got != want {
			t.Errorf("% x, a byte a time: %v, not %v", s, got, want)
		}
		for from := range len(s) + 1 {
			for to := from; to <= len(s); to++ {
				if got := pieces(s[:from], s[from:to], s[to:]); got != want {
					t.Errorf("% x, cut at %d and %d: %v, not %v", s, from, to, got, want)
				}
			}
		}
	}
}

// P3.1: what a check says behind each byte of a text.
func TestEachByte(t *testing.T) {
	for _, s := range mixed {
		c := New()
		for i := range len(s) {
			fed := c.Feed(s[i : i+1])
			if got, want := (said{fed, c.Whole(), c.Bad(), c.At()}), wanted(s[:i+1]); got != want {
				t.Errorf("% x: %v, not %v", s[:i+1], got, want)
			}
		}
		right(t, s)
	}
}

// P3.3: of a text the characters' bytes, one behind the other, are the text.
func TestJoined(t *testing.T) {
	for _, s := range append(mixed, string([]rune{0, 0x7f, 0x80, 0x7ff, 0x800, 0xd7ff, 0xe000, 0xffff, 0x10000, 0x10ffff})) {
		if !Valid(s) {
			continue
		}
		joined := ""
		for at, number := range Runes(s) {
			if at != len(joined) {
				t.Errorf("% x: a character at %d, behind %d bytes", s, at, len(joined))
			}
			joined += string(number)
		}
		if joined != s {
			t.Errorf("% x, joined: % x", s, joined)
		}
	}
}

// P3.2: Runes ends where the first bad byte's character begins, or one that is cut off, though others stand behind.
func TestRunesEnd(t *testing.T) {
	for _, x := range []struct {
		s    string
		want []char
	}{
		{"", nil},
		{"a\xc3\xa9\xe2\x82\xac\xf0\x9f\x98\x80z", []char{{0, 'a'}, {1, 0xe9}, {3, 0x20ac}, {6, 0x1f600}, {10, 'z'}}},
		{"ab\xed\xa0\x80cd", []char{{0, 'a'}, {1, 'b'}}},
		{"\xc3\xa9\xe2\x82", []char{{0, 0xe9}}},
		{"\xc3\xa9\xf0\x9f\x98", []char{{0, 0xe9}}},
		{"\xc3\xa9\xe2\x82a\xc3\xa9", []char{{0, 0xe9}}},
		{"\xff\x61", nil},
		{"\xef\xbf\xbd\xff", []char{{0, 0xfffd}}},
	} {
		if got := runesOf(x.s); !slices.Equal(got, x.want) {
			t.Errorf("% x: %v, not %v", x.s, got, x.want)
		}
	}
}

// P3.2: Runes may be left early, at each character, and ranged over again from its beginning.
func TestRunesAgain(t *testing.T) {
	all := Runes("a\xc3\xa9\xe2\x82\xac\xf0\x9f\x98\x80")
	want := []char{{0, 'a'}, {1, 0xe9}, {3, 0x20ac}, {6, 0x1f600}}
	for n := range len(want) + 1 {
		var got []char
		for at, number := range all {
			if len(got) == n {
				break
			}
			got = append(got, char{at, number})
		}
		if !slices.Equal(got, want[:n]) {
			t.Errorf("left behind %d: %v", n, got)
		}
	}
	calls := 0
	all(func(int, rune) bool { calls++; return false })
	if calls != 1 {
		t.Errorf("told further %d times by one who wanted no more", calls-1)
	}
}

// P3.2, R3: two who go through the same characters do not disturb one another.
func TestRunesNested(t *testing.T) {
	all := Runes("\xc3\xa9a")
	var got []char
	for at, number := range all {
		got = append(got, char{at, number})
		for at, number := range all {
			got = append(got, char{at, number})
		}
	}
	if want := []char{{0, 0xe9}, {0, 0xe9}, {2, 'a'}, {2, 'a'}, {0, 0xe9}, {2, 'a'}}; !slices.Equal(got, want) {
		t.Errorf("%v, not %v", got, want)
	}
}

// R1: Runes is never nil, and nobody to tell is told nothing.
func TestRunesToNobody(t *testing.T) {
	for _, s := range mixed {
		Runes(s)(nil)
	}
}

// R3: two checks know nothing of one another.
func TestTwoChecks(t *testing.T) {
	a, b := New(), New()
	a.Feed("\xe2\x82")
	b.Feed("xyz")
	if !b.Whole() || b.At() != 3 || a.Whole() || a.At() != 2 {
		t.Error("one check read what the other was fed")
	}
	b.Feed("\xff")
	if a.Bad() || !a.Feed("\xac") || !a.Whole() {
		t.Error("one check fell to the other's bad byte")
	}
}

// P3.1, P3.2: long texts, and a bad byte far behind.
func TestLong(t *testing.T) {
	s := strings.Repeat("a\xc3\xa9\xe2\x82\xac\xf0\x9f\x98\x80", 30000)
	right(t, s)
	right(t, s+"\xe2\x82")
	right(t, s+"\xe2\x82\xff"+s)
	right(t, s[:len(s)-1]+s)
}

// P3.1, P3.2: whatever bytes are handed in, and however they are cut, the library says the same.
func FuzzAll(f *testing.F) {
	for i, s := range mixed {
		f.Add(s, i)
	}
	f.Fuzz(func(t *testing.T, s string, cut int) {
		right(t, s)
		if cut < 0 || cut > len(s) {
			cut = len(s)
		}
		if got, want := pieces(s[:cut], s[cut:]), wanted(s); got != want {
			t.Errorf("% x, cut at %d: %v, not %v", s, cut, got, want)
		}
	})
}
