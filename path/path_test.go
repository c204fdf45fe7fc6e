package path

import (
	"math/rand"
	"net/url"
	"slices"
	"strings"
	"testing"

	"crier/api"
	"crier/line"
)

// The characters of which things are made, all of them, in no order.
const (
	letters = "ABCDEFGHIJKLMNOPQRSTUVWXYZabcdefghijklmnopqrstuvwxyz"
	digits  = "0123456789"
	plain   = letters + digits + "-._~"        // what is written as it is
	paths   = plain + "!$&'()*+,;=:@"          // what may stand in a segment of a path as it is
	great   = digits + "ABCDEF"                // digits of sixteen, as they are written
	small   = digits + "abcdef"                // and as they may be read, too
	mixed   = digits + "abcdefABCDEF"          // all that may be read
	strange = "/\x00%.?# \t\r\n\x7f\x80\xff+:" // bytes that are not like others
)

// one is the text of the byte b.
func one(b int) string { return string([]byte{byte(b)}) }

// has says whether the byte b stands in s.
func has(s string, b int) bool { return strings.IndexByte(s, byte(b)) >= 0 }

// escaped is % and the two digits of b, as they are written.
func escaped(b int) string { return "%" + great[b>>4:b>>4+1] + great[b&15:b&15+1] }

// splits says whether these are the segments of path.
func splits(t *testing.T, path string, want ...string) {
	t.Helper()
	if l, ok := Split(path); !ok || !slices.Equal(l, want) {
		t.Errorf("Split(%.80q): %.80q, %v, want %.80q", path, l, ok, want)
	}
}

// splitsNot says whether path has no segments to be told, and nothing stands beside the false.
func splitsNot(t *testing.T, path string) {
	t.Helper()
	if l, ok := Split(path); ok || len(l) > 0 {
		t.Errorf("Split(%.80q): %.80q, %v", path, l, ok)
	}
}

// joins says whether path is that of these segments.
func joins(t *testing.T, path string, l ...string) {
	t.Helper()
	if s, ok := Join(l); !ok || s != path {
		t.Errorf("Join(%.80q): %.80q, %v, want %.80q", l, s, ok, path)
	}
}

// joinsNot says whether these segments have no path, and nothing stands beside the false.
func joinsNot(t *testing.T, l ...string) {
	t.Helper()
	if s, ok := Join(l); ok || s != "" {
		t.Errorf("Join(%.80q): %.80q, %v", l, s, ok)
	}
}

// P11.1: a path's segments.
func TestSplit(t *testing.T) {
	for _, c := range []struct {
		path string
		want []string
	}{
		{"/", []string{""}},
		{"//", []string{"", ""}},
		{"///", []string{"", "", ""}},
		{"/a", []string{"a"}},
		{"/a/", []string{"a", ""}},
		{"//a", []string{"", "a"}},
		{"/a//b", []string{"a", "", "b"}},
		{"/a/b/c", []string{"a", "b", "c"}},
		{"/a/b%20c/", []string{"a", "b c", ""}},
		{"/%41", []string{"A"}},
		{"/%41b%43", []string{"AbC"}},
		{"/%c3%a9", []string{"\xc3\xa9"}},
		{"/%C3%A9/%fF%Ff", []string{"\xc3\xa9", "\xff\xff"}},
		// what an escape says is a byte like any other: it begins no escape, and is no ? and no #
		{"/%2541", []string{"%41"}},
		{"/%25%34%31", []string{"%41"}},
		{"/%252f", []string{"%2f"}},
		{"/%2500/%252e", []string{"%00", "%2e"}},
		{"/a%3fb%23c", []string{"a?b#c"}},
		{"/%20/%09/%0d%0A/%01", []string{" ", "\t", "\r\n", "\x01"}},
		// + is no blank
		{"/a+b", []string{"a+b"}},
		{"/a%2Bb", []string{"a+b"}},
		{"/a:b@c;d=e", []string{"a:b@c;d=e"}},
		{"/http://x", []string{"http:", "", "x"}},
		{"/" + paths, []string{paths}},
		// dots alone are wrong only if they are one or two, and the whole segment
		{"/...", []string{"..."}},
		{"/....", []string{"...."}},
		{"/%2e%2e%2e", []string{"..."}},
		{"/.a", []string{".a"}},
		{"/a.", []string{"a."}},
		{"/..a/a../a..b/.a.", []string{"..a", "a..", "a..b", ".a."}},
		{"/.%20/%20./..%20/%20..", []string{". ", " .", ".. ", " .."}},
		{"/%252e%252e", []string{"%2e%2e"}},
		{"/%5c../..%5c", []string{"\\..", "..\\"}},
	} {
		splits(t, c.path, c.want...)
	}
}

// P11.1: what is no path, or may not be.
func TestSplitWrong(t *testing.T) {
	for _, s := range []string{
		"", "a", "a/b", "*", ".", "..", "?", "http://a/b", "%2fa", "\\a", " /a", "/a ", "/a b", "/a\t", "/a\\b",
		// a query, an empty one too
		"/?", "/??", "/a?", "/a?b", "/a/?", "/a/b?c/d", "/?/a", "?/a", "/a#", "/a#b",
		"/%", "/a%", "/%4", "/a%2", "/%%", "/%%41", "/%4%41", "/%g0", "/%0g", "/%zz", "/%/41", "/%4/1", "/%-1", "/%+1", "/%0x", "/%_1", "/%1_", "/% 1", "/%u0041",
		"/a[b]", "/a{b}", "/a|b", "/a^b", "/a`b", "/a\"b", "/a<b>", "/\x00", "/a\x7f", "/\xc3\xa9", "/\xff", "/a\r\n",
		// segments that may not be, first, last, in the midst, alone
		"/.", "/..", "/./", "/../", "/./a", "/../a", "/a/.", "/a/..", "/a/./b", "/a/../b", "//.", "//..", "/.//", "/..//", "/a/b/c/..", "/../a/b/c",
		"/%2e", "/%2E", "/%2e%2E", "/%2E%2e", "/.%2e", "/%2e.", "/a/%2e%2e", "/a/%2e/b", "/%2e%2e/a", "/a/.%2E/b",
		"/%2f", "/%2F", "/a%2fb", "/a%2F", "/%2fa", "/a/b%2f", "/%2f/a", "/a/%2F/b", "/..%2f..", "/%2f..",
		"/%00", "/a%00b", "/a%00", "/%00a", "/a/%00", "/%00/a", "/a/b%00/c", "/..%00", "/%00.",
	} {
		splitsNot(t, s)
	}
}

// P11.1: whatever byte stands wherever in a path.
func TestSplitBytes(t *testing.T) {
	for b := range 256 {
		s := one(b)
		switch {
		case has(paths, b):
			splits(t, "/a"+s, "a"+s)
			splits(t, "/"+s+"a", s+"a")
			splits(t, "/a"+s+"a", "a"+s+"a")
			splits(t, "/b/a"+s+"a/c", "b", "a"+s+"a", "c")
		case b == '/':
			splits(t, "/a"+s, "a", "")
			splits(t, "/"+s+"a", "", "a")
			splits(t, "/a"+s+"a", "a", "a")
		default:
			splitsNot(t, "/"+s)
			splitsNot(t, "/a"+s)
			splitsNot(t, "/"+s+"a")
			splitsNot(t, "/a"+s+"a")
			splitsNot(t, "/b/a"+s+"a/c")
		}
		if b != '/' {
			splitsNot(t, s)
			splitsNot(t, s+"/")
			splitsNot(t, s+"a/b")
		}
	}
}

// P11.1: whatever two bytes stand behind a %.
func TestSplitDigits(t *testing.T) {
	for a := range 256 {
		for b := range 256 {
			s := "%" + one(a) + one(b)
			if !has(mixed, a) || !has(mixed, b) {
				splitsNot(t, "/"+s)
				splitsNot(t, "/x"+s+"y")
				splitsNot(t, "/"+s+"41")
				continue
			}
			value := strings.Index(small, strings.ToLower(one(a)))<<4 | strings.Index(small, strings.ToLower(one(b)))
			if value == '/' || value == 0 {
				splitsNot(t, "/"+s)
				splitsNot(t, "/x"+s+"y")
				continue
			}
			splits(t, "/x"+s+"y", "x"+one(value)+"y")
			splits(t, "/x"+s+"/"+s+"41", "x"+one(value), one(value)+"41")
		}
	}
}

// P11.1: a path has at most MaxTarget bytes, as it is written.
func TestSplitLong(t *testing.T) {
	for n := 505; n < 520; n++ {
		s := strings.Repeat("a", n-1)
		slashes, empty := strings.Repeat("/", n), make([]string, n)
		short := strings.Repeat("b", (n-1)%3)
		escapes, read := strings.Repeat("%41", (n-1)/3), strings.Repeat("A", (n-1)/3)
		if n <= api.MaxTarget {
			splits(t, "/"+s, s)
			splits(t, slashes, empty...)
			splits(t, "/"+escapes+short, read+short)
		} else {
			splitsNot(t, "/"+s)
			splitsNot(t, slashes)
			splitsNot(t, "/"+escapes+short)
		}
	}
	splits(t, "/"+strings.Repeat("a", 511), strings.Repeat("a", 511))
	splitsNot(t, "/"+strings.Repeat("a", 512))
	splitsNot(t, "/"+strings.Repeat("a", 510)+"?")
	splitsNot(t, "/"+strings.Repeat("a", 1<<20))
	splitsNot(t, strings.Repeat("/", 1<<20))
	splitsNot(t, strings.Repeat("%41", 1<<20))
}

// P11.1: the path of segments.
func TestJoin(t *testing.T) {
	for _, c := range []struct {
		path string
		l    []string
	}{
		{"/", []string{""}},
		{"//", []string{"", ""}},
		{"///", []string{"", "", ""}},
		{"/a", []string{"a"}},
		{"/a/", []string{"a", ""}},
		{"//a", []string{"", "a"}},
		{"/a//b", []string{"a", "", "b"}},
		{"/a/b%20c", []string{"a", "b c"}},
		{"/" + plain, []string{plain}},
		{"/%21%24%26%27%28%29%2A%2B%2C%3B%3D%3A%40", []string{"!$&'()*+,;=:@"}},
		{"/%2541", []string{"%41"}},
		{"/%25/%25%25/%25zz", []string{"%", "%%", "%zz"}},
		{"/%3F/%23/a%3Fb", []string{"?", "#", "a?b"}},
		{"/%0D%0A/%01/%09", []string{"\r\n", "\x01", "\t"}},
		{"/%C3%A9/%FF/%80", []string{"\xc3\xa9", "\xff", "\x80"}},
		{"/.../..../.a/a./..a/a..", []string{"...", "....", ".a", "a.", "..a", "a.."}},
		{"/.%20/..%20/%20.", []string{". ", ".. ", " ."}},
		{"/%252e%252e", []string{"%2e%2e"}},
		{"/%5C..", []string{"\\.."}},
	} {
		joins(t, c.path, c.l...)
	}
}

// P11.1: segments that have no path.
func TestJoinWrong(t *testing.T) {
	joinsNot(t)
	joinsNot(t, []string{}...)
	for _, s := range []string{".", "..", "/", "a/b", "/a", "a/", "//", "\x00", "a\x00", "\x00a", "a\x00b", "../..", "./", "/..", ".\x00", "..\x00", "/\x00"} {
		joinsNot(t, s)
		joinsNot(t, s, "a")
		joinsNot(t, "a", s)
		joinsNot(t, "a", s, "b")
		joinsNot(t, "", s)
		joinsNot(t, s, "")
		joinsNot(t, s, s)
	}
}

// P11.1: whatever byte stands wherever in a segment.
func TestJoinBytes(t *testing.T) {
	for b := range 256 {
		s := one(b)
		switch {
		case b == '/' || b == 0:
			joinsNot(t, s)
			joinsNot(t, "a"+s)
			joinsNot(t, s+"a")
			joinsNot(t, "a"+s+"a")
		case has(plain, b):
			joins(t, "/a"+s, "a"+s)
			joins(t, "/"+s+"a", s+"a")
			joins(t, "/a"+s+"a/"+s+"b", "a"+s+"a", s+"b")
		default:
			joins(t, "/"+escaped(b), s)
			joins(t, "/a"+escaped(b), "a"+s)
			joins(t, "/"+escaped(b)+"a", s+"a")
			joins(t, "/a"+escaped(b)+"a/"+escaped(b)+"b", "a"+s+"a", s+"b")
		}
	}
}

// P11.1: a path has at most MaxTarget bytes, and the segments' own bytes count as they are written.
func TestJoinLong(t *testing.T) {
	for n := 505; n < 520; n++ {
		s := strings.Repeat("a", n-1)
		slashes, empty := strings.Repeat("/", n), make([]string, n)
		short := strings.Repeat("b", (n-1)%3)
		escapes, read := strings.Repeat("%20", (n-1)/3), strings.Repeat(" ", (n-1)/3)
		if n <= api.MaxTarget {
			joins(t, "/"+s, s)
			joins(t, "/"+s[:100]+"/"+s[101:], s[:100], s[101:])
			joins(t, slashes, empty...)
			joins(t, "/"+escapes+short, read+short)
			joins(t, "/"+short+escapes, short+read)
		} else {
			joinsNot(t, s)
			joinsNot(t, s[:100], s[101:])
			joinsNot(t, empty...)
			joinsNot(t, read+short)
			joinsNot(t, short+read)
		}
	}
	joins(t, "/"+strings.Repeat("a", 511), strings.Repeat("a", 511))
	joinsNot(t, strings.Repeat("a", 512))
	joinsNot(t, strings.Repeat("a", 511), "")
	joins(t, "/"+strings.Repeat("a", 510)+"/", strings.Repeat("a", 510), "")
	joins(t, "/a"+strings.Repeat("%FF", 170), "a"+strings.Repeat("\xff", 170))
	joinsNot(t, "ab"+strings.Repeat("\xff", 170))
	joinsNot(t, strings.Repeat("\xff", 171))
	joinsNot(t, strings.Repeat("\xff", 511))
	joinsNot(t, strings.Repeat("a", 1<<20))
	joinsNot(t, strings.Repeat("\xff", 1<<20), "a")
	joinsNot(t, make([]string, 1<<20)...)
}

// text is up to most of these bytes, drawn.
func text(r *rand.Rand, of string, most int) string {
	s := make([]byte, r.Intn(most+1))
	for i := range s {
		s[i] = of[r.Intn(len(of))]
	}
	return string(s)
}

// all are all bytes that there are.
func all() string {
	l := []byte{}
	for b := range 256 {
		l = append(l, byte(b))
	}
	return string(l)
}

// mayBe says plainly whether a segment may be.
func mayBe(s string) bool {
	switch s {
	case ".", "..":
		return false
	}
	return !has(s, '/') && !has(s, 0)
}

// written says plainly how a segment is written.
func written(s string) string {
	out := ""
	for _, b := range []byte(s) {
		if has(plain, int(b)) {
			out += one(int(b))
		} else {
			out += escaped(int(b))
		}
	}
	return out
}

// writtenAll says plainly how segments are written, whether they may be or not.
func writtenAll(l []string) string {
	out := ""
	for _, s := range l {
		out += "/" + written(s)
	}
	return out
}

// segment is one that may be or may not, drawn.
func segment(r *rand.Rand) string {
	switch r.Intn(4) {
	case 0:
		return text(r, "a.", 3)
	case 1:
		return text(r, strange, 2)
	case 2:
		return text(r, all(), 4)
	}
	return text(r, paths, 8)
}

// P11.1, P11.2: any segments are joined as they are written, if they may be; what was joined is split into the same ones.
func TestJoined(t *testing.T) {
	r := rand.New(rand.NewSource(11))
	right, wrong := 0, 0
	for range 40000 {
		l, want, ok := []string{}, "", true
		for range r.Intn(5) {
			s := segment(r)
			l, want, ok = append(l, s), want+"/"+written(s), ok && mayBe(s)
		}
		if !ok || len(l) == 0 {
			wrong++
			joinsNot(t, l...)
			continue
		}
		right++
		joins(t, want, l...)
		splits(t, want, l...)
		if path, query, ok := line.Target(want); !ok || path != want || query != "" {
			t.Errorf("Join(%q): %q is no path", l, want)
		}
	}
	if right < 1000 || wrong < 1000 {
		t.Error("too few of a kind were drawn:", right, wrong)
	}
}

// P11.2: paths about MaxTarget bytes that were joined are split into the same segments.
func TestJoinedLong(t *testing.T) {
	r := rand.New(rand.NewSource(12))
	right, wrong := 0, 0
	for range 4000 {
		l, want := []string{}, ""
		for len(want) < 450+r.Intn(60) {
			s := text(r, all()[1:'/']+all()['/'+1:], 20)
			if mayBe(s) {
				l, want = append(l, s), want+"/"+written(s)
			}
		}
		if len(want) > 512 {
			wrong++
			joinsNot(t, l...)
			continue
		}
		right++
		joins(t, want, l...)
		splits(t, want, l...)
	}
	if right < 1000 || wrong < 100 {
		t.Error("too few of a kind were drawn:", right, wrong)
	}
}

// splitPlainly is what the words say of a path, with another reader of escapes.
func splitPlainly(path string) ([]string, bool) {
	whole, _, ok := line.Target(path)
	if !ok || has(path, '?') || whole == "" {
		return nil, false
	}
	l := []string{}
	for _, s := range strings.Split(path, "/")[1:] {
		s, err := url.PathUnescape(s)
		if err != nil || !mayBe(s) {
			return nil, false
		}
		l = append(l, s)
	}
	return l, true
}

// P11.1, P11.2: any text is split as the words say; what was split, joined and split again, too, if it can be joined.
func TestSplitAgain(t *testing.T) {
	r := rand.New(rand.NewSource(13))
	right, wrong, long := 0, 0, 0
	for range 60000 {
		s := "/"
		for range r.Intn(8) {
			switch r.Intn(6) {
			case 0, 1:
				s += text(r, "/.a", 4)
			case 2:
				s += "%" + one(int(small[r.Intn(16)])) + one(int(great[r.Intn(16)]))
			case 3:
				s += []string{"%2e", "%2E", "%2f", "%00", "%25", "%41"}[r.Intn(6)]
			case 4:
				s += text(r, paths, 3)
			default:
				if r.Intn(8) == 0 {
					s += text(r, strange, 1)
				}
			}
		}
		if r.Intn(50) == 0 {
			s += strings.Repeat("/!:", 60+r.Intn(60))
		}
		want, ok := splitPlainly(s)
		if !ok {
			wrong++
			splitsNot(t, s)
			continue
		}
		right++
		splits(t, s, want...)
		again, ok := Join(want)
		if !ok {
			long++
			if n := len(writtenAll(want)); n <= 512 {
				t.Errorf("Join(%.80q): false of %d bytes", want, n)
			}
			continue
		}
		splits(t, again, want...)
	}
	if right < 1000 || wrong < 1000 || long < 100 {
		t.Error("too few of a kind were drawn:", right, wrong, long)
	}
}

// R4: what is handed in, its spare room too, is not changed and not kept; what is answered is new memory.
func TestMemory(t *testing.T) {
	room := []string{"a", "b c", "", "spare", "room"}
	l := room[:3]
	path, ok := Join(l)
	if !ok || path != "/a/b%20c/" || !slices.Equal(room, []string{"a", "b c", "", "spare", "room"}) {
		t.Errorf("Join: %q, %v, and the list is %q", path, ok, room)
	}
	l[0], l[1] = "x", ".."
	joins(t, "/a/b%20c/", "a", "b c", "")
	first, _ := Split(path)
	second, _ := Split(path)
	first[0], first[2] = "x", ".."
	if third := append(first, "y"); len(third) != 4 || !slices.Equal(second, []string{"a", "b c", ""}) {
		t.Errorf("Split: %q after another answer was changed", second)
	}
	splits(t, path, "a", "b c", "")
}

// R3: what is answered hangs on the argument alone.
func TestAgain(t *testing.T) {
	for range 3 {
		splits(t, "/a/%41", "a", "A")
		splitsNot(t, "/a/%2e")
		joins(t, "/a/%3A", "a", ":")
		joinsNot(t, "a", "..")
		joinsNot(t)
	}
}
