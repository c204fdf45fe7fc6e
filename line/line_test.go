package line

import (
	"math/rand"
	"strconv"
	"strings"
	"testing"

	"crier/api"
	"crier/field"
)

// The characters of which things are made, all of them, in no order.
const (
	letters = "ABCDEFGHIJKLMNOPQRSTUVWXYZabcdefghijklmnopqrstuvwxyz"
	digits  = "0123456789"
	tokens  = letters + digits + "!#$%&'*+-.^_`|~"
	sixteen = digits + "abcdefABCDEF"
	paths   = letters + digits + "-._~!$&'()*+,;=:@/" // % aside
	queries = paths + "?"
)

// span are the bytes from a to b.
func span(a, b int) string {
	l := []byte{}
	for ; a <= b; a++ {
		l = append(l, byte(a))
	}
	return string(l)
}

// targets are all bytes of a request's target; values all of a value's characters.
func targets() string { return span(0x21, 0x7e) }
func values() string  { return "\t" + span(0x20, 0x7e) + span(0x80, 0xff) }

// one is the text of the byte b.
func one(b int) string { return string([]byte{byte(b)}) }

// has says whether the byte b stands in s.
func has(s string, b int) bool { return strings.IndexByte(s, byte(b)) >= 0 }

// around is the text of the byte b alone, at the beginning, at the end, and in the midst.
func around(b int) []string {
	return []string{one(b), one(b) + "a", "a" + one(b), "a" + one(b) + "a"}
}

// parses says whether s is the line of these.
func parses(t *testing.T, s, method, target string, version int) {
	t.Helper()
	if m, g, v, ok := Parse(s); !ok || m != method || g != target || v != version {
		t.Errorf("Parse(%.80q): %q, %.80q, %d, %v, want %q, %.80q, %d", s, m, g, v, ok, method, target, version)
	}
}

// parsesNot says whether s is no request's line, and nothing stands beside the false.
func parsesNot(t *testing.T, s string) {
	t.Helper()
	if m, g, v, ok := Parse(s); ok || m != "" || g != "" || v != 0 {
		t.Errorf("Parse(%.80q): %q, %.80q, %d, %v", s, m, g, v, ok)
	}
}

// targeted says whether s is the target of these.
func targeted(t *testing.T, s, path, query string) {
	t.Helper()
	if p, q, ok := Target(s); !ok || p != path || q != query {
		t.Errorf("Target(%.80q): %.80q, %.80q, %v, want %.80q, %.80q", s, p, q, ok, path, query)
	}
}

// targetedNot says whether s is no target in origin form, and nothing stands beside the false.
func targetedNot(t *testing.T, s string) {
	t.Helper()
	if p, q, ok := Target(s); ok || p != "" || q != "" {
		t.Errorf("Target(%.80q): %.80q, %.80q, %v", s, p, q, ok)
	}
}

// replied says whether s is the reply's line of these.
func replied(t *testing.T, s string, code int, reason string) {
	t.Helper()
	if c, r, ok := Status(s); !ok || c != code || r != reason {
		t.Errorf("Status(%.80q): %d, %.80q, %v, want %d, %.80q", s, c, r, ok, code, reason)
	}
}

// repliedNot says whether s is no reply's line, and nothing stands beside the false.
func repliedNot(t *testing.T, s string) {
	t.Helper()
	if c, r, ok := Status(s); ok || c != 0 || r != "" {
		t.Errorf("Status(%.80q): %d, %.80q, %v", s, c, r, ok)
	}
}

// P7.1: the chapter's examples.
func TestExamples(t *testing.T) {
	parses(t, "GET /a?b HTTP/1.1", "GET", "/a?b", 11)
	parsesNot(t, "GET  /a HTTP/1.1")
	parsesNot(t, "GET /a HTTP/2.0")
	targeted(t, "/a%20b?x=1?y", "/a%20b", "x=1?y")
	targetedNot(t, "/a%2")
	targetedNot(t, "*")
	targetedNot(t, "/a#b")
	replied(t, "HTTP/1.1 404 Not Found", 404, "Not Found")
	repliedNot(t, "HTTP/1.1 99 x")
}

// P7.1: a request's line.
func TestParse(t *testing.T) {
	for _, c := range []struct {
		s, method, target string
		version           int
	}{
		{"GET / HTTP/1.1", "GET", "/", 11},
		{"GET / HTTP/1.0", "GET", "/", 10},
		{"get / HTTP/1.1", "get", "/", 11},
		{"G * HTTP/1.1", "G", "*", 11},
		{"OPTIONS * HTTP/1.0", "OPTIONS", "*", 10},
		{"CONNECT a:80 HTTP/1.1", "CONNECT", "a:80", 11},
		{"GET http://a/b?c HTTP/1.1", "GET", "http://a/b?c", 11},
		{"GET /a#b HTTP/1.1", "GET", "/a#b", 11},
		{"GET /% HTTP/1.1", "GET", "/%", 11},
		{"GET HTTP/1.1 HTTP/1.0", "GET", "HTTP/1.1", 10},
		{"1 2 HTTP/1.1", "1", "2", 11},
		{tokens + " " + targets() + " HTTP/1.1", tokens, targets(), 11},
		{strings.Repeat("a", 3000) + " / HTTP/1.1", strings.Repeat("a", 3000), "/", 11},
		// how long a target in origin form may be counts for that alone
		{"GET /" + strings.Repeat("a", 1<<20) + " HTTP/1.1", "GET", "/" + strings.Repeat("a", 1<<20), 11},
	} {
		parses(t, c.s, c.method, c.target, c.version)
	}
}

// P7.1: what is no request's line.
func TestParseWrong(t *testing.T) {
	for _, s := range []string{
		"", " ", "  ", "   ", "HTTP/1.1", "GET", "GET ", "GET /", "GET / ", " / HTTP/1.1", "/ HTTP/1.1", "GET HTTP/1.1", "GET  HTTP/1.1",
		" GET / HTTP/1.1", "GET / HTTP/1.1 ", "GET /  HTTP/1.1", "GET / a HTTP/1.1", "GET / HTTP/1.1 a", "GET / HTTP/1.1a",
		"GET\t/ HTTP/1.1", "GET /\tHTTP/1.1", "GET /\t HTTP/1.1", "GET\t / HTTP/1.1", "GET\u00a0/\u00a0HTTP/1.1", "GET\x0b/\x0cHTTP/1.1",
		"GET / HTTP/1.1\r\n", "GET / HTTP/1.1\n", "GET / HTTP/1.1\r", "\r\nGET / HTTP/1.1", "GET /\r\n HTTP/1.1", "GET\r\n / HTTP/1.1",
		"GET / HTTP/1.2", "GET / HTTP/0.9", "GET / HTTP/2.0", "GET / HTTP/2", "GET / HTTP/1", "GET / HTTP/1.", "GET / HTTP/1.01", "GET / HTTP/01.1",
		"GET / HTTP/1.10", "GET / HTTP/11", "GET / HTTP/1,1", "GET / http/1.1", "GET / Http/1.1", "GET / HTTPS/1.1", "GET / HTTP1.1", "GET / HTTP /1.1",
		"GET / HTTP/1.1\x00", "GET / HTTP/\xff.1", "GET / ", "GET / /1.1", "GET / TTP/1.1", "G:T / HTTP/1.1", "G/T / HTTP/1.1", "(GET) / HTTP/1.1",
		"G\xc3\x89T / HTTP/1.1", "GET /\xc3\xa9 HTTP/1.1", "GET /\x7f HTTP/1.1", "GET /\x00 HTTP/1.1", "HTTP/1.1 200 OK", "HTTP/1.1 / HTTP/1.1",
		strings.Repeat(" ", 1<<20), strings.Repeat("a", 1<<20), strings.Repeat("a ", 1<<19) + "HTTP/1.1",
	} {
		parsesNot(t, s)
	}
}

// P7.1: whatever byte stands wherever in the method, in the target and in the version.
func TestParseBytes(t *testing.T) {
	for b := range 256 {
		for _, s := range around(b) {
			if has(tokens, b) {
				parses(t, s+" /x HTTP/1.0", s, "/x", 10)
			} else {
				parsesNot(t, s+" /x HTTP/1.0")
			}
			if has(targets(), b) {
				parses(t, "GET "+s+" HTTP/1.1", "GET", s, 11)
			} else {
				parsesNot(t, "GET "+s+" HTTP/1.1")
			}
		}
		const version = "HTTP/1.1"
		for i := range len(version) {
			s := version[:i] + one(b) + version[i+1:]
			switch s {
			case "HTTP/1.1":
				parses(t, "GET / "+s, "GET", "/", 11)
			case "HTTP/1.0":
				parses(t, "GET / "+s, "GET", "/", 10)
			default:
				parsesNot(t, "GET / "+s)
			}
			parsesNot(t, "GET / "+version[:i]+one(b)+version[i:])
			parsesNot(t, "GET / "+version[:i]+version[i+1:])
		}
	}
}

// P7.1: of a line that is one no beginning, and no end, is one, but that of a shorter method.
func TestParseCut(t *testing.T) {
	const s = "GET /a HTTP/1.1"
	for i := range len(s) {
		parsesNot(t, s[:i])
		if i < len("GET") {
			parses(t, s[i:], "GET"[i:], "/a", 11)
		} else {
			parsesNot(t, s[i:])
		}
	}
}

// P7.1: a target in origin form.
func TestTarget(t *testing.T) {
	for _, c := range []struct{ s, path, query string }{
		{"/", "/", ""},
		{"//", "//", ""},
		{"/a", "/a", ""},
		{"/a/b/", "/a/b/", ""},
		{"/?", "/", ""},
		{"/??", "/", "?"},
		{"/?a", "/", "a"},
		{"/a?", "/a", ""},
		{"/a?b", "/a", "b"},
		{"/a?b?", "/a", "b?"},
		{"/a?b?c?d", "/a", "b?c?d"},
		{"/a??b", "/a", "?b"},
		{"/a/b?/c/d", "/a/b", "/c/d"},
		{"/a/../b/./c", "/a/../b/./c", ""},
		{"/%2e%2E/%00%2f%fF", "/%2e%2E/%00%2f%fF", ""},
		{"/%41?%42", "/%41", "%42"},
		{"/%252?%253", "/%252", "%253"},
		{"/%25%25?%25%25", "/%25%25", "%25%25"},
		{"/a:b@c;d=e", "/a:b@c;d=e", ""},
		{"/http://a/b?c", "/http://a/b", "c"},
		{"/" + paths + "?" + queries, "/" + paths, queries},
	} {
		targeted(t, c.s, c.path, c.query)
	}
}

// P7.1: what is none in origin form.
func TestTargetWrong(t *testing.T) {
	for _, s := range []string{
		"", "*", "a", "a/b", "?", "?a", "?/a", "a:80", "http://a/b", "%2fa", " /a", "/a ", "/a b", "/a\t", "\\a", "/a\\b", "-/a",
		"/a#", "/a#b", "/#", "/a?b#c", "/a?#", "/a[b]", "/a{b}", "/a|b", "/a^b", "/a`b", "/a\"b", "/a<b>", "/a?b[", "/a?b|c", "/a?b\"", "/a?b c", "/a?\\",
		"/%", "/%a", "/%4", "/a%", "/a%2", "/%%", "/%%41", "/%%4141", "/%4%1", "/%g0", "/%0g", "/%G0", "/%0G", "/% 1", "/%1 ", "/%-1", "/%+1", "/%0x", "/%/41", "/%4/1",
		"/%?41", "/%4?1", "/a?%", "/a?%4", "/a?b%4", "/a?%?41", "/a?%4?1", "/a?%gg", "/a?%%41", "/a%?", "/a%2?", "/a?%", "/%41%4", "/%u0041", "/%\u0664\u0661",
		"/\r\n", "/a\r", "/a\n", "/\x00", "/\x7f", "/a?\x7f", "/a?\r\n", "/\xc3\xa9", "/\xff", "/a?\xc3\xa9", "/a?\x80", "\xef\xbc\x8fa",
	} {
		targetedNot(t, s)
	}
}

// P7.1: whatever byte stands wherever in the path and in the query.
func TestTargetBytes(t *testing.T) {
	for b := range 256 {
		for _, s := range around(b) {
			switch {
			case has(paths, b):
				targeted(t, "/"+s, "/"+s, "")
			case b == '?':
				path, query, _ := strings.Cut("/"+s, "?")
				targeted(t, "/"+s, path, query)
			default:
				targetedNot(t, "/"+s)
			}
			if has(queries, b) {
				targeted(t, "/?"+s, "/", s)
			} else {
				targetedNot(t, "/?"+s)
			}
			if b != '/' {
				targetedNot(t, s)
				targetedNot(t, s+"/")
			}
		}
	}
}

// P7.1: whatever two bytes stand behind a %.
func TestTargetDigits(t *testing.T) {
	for a := range 256 {
		for b := range 256 {
			s := "%" + one(a) + one(b)
			if has(sixteen, a) && has(sixteen, b) {
				targeted(t, "/"+s, "/"+s, "")
				targeted(t, "/x"+s+"y?x"+s+"y", "/x"+s+"y", "x"+s+"y")
				targeted(t, "/?"+s, "/", s)
			} else {
				targetedNot(t, "/"+s)
				targetedNot(t, "/x"+s+"y?")
				targetedNot(t, "/?x"+s+"y")
				targetedNot(t, "/?"+s)
			}
		}
	}
}

// P7.1: at most MaxTarget bytes in all: path, ? and query.
func TestTargetLong(t *testing.T) {
	many := strings.Repeat("a", api.MaxTarget+5)
	for n := range api.MaxTarget + 1 {
		path := "/" + many[:n]
		for _, query := range []string{many[:api.MaxTarget-n+3], many[:max(0, api.MaxTarget-n-2)], ""} {
			s := path + "?" + query
			if len(s) <= api.MaxTarget {
				targeted(t, s, path, query)
			} else {
				targetedNot(t, s)
			}
		}
		if len(path) <= api.MaxTarget {
			targeted(t, path, path, "")
		} else {
			targetedNot(t, path)
		}
	}
	targeted(t, "/"+many[:511], "/"+many[:511], "")
	targetedNot(t, "/"+many[:512])
	targeted(t, "/"+many[:510]+"?", "/"+many[:510], "")
	targetedNot(t, "/"+many[:511]+"?")
	targeted(t, "/?"+many[:510], "/", many[:510])
	targetedNot(t, "/?"+many[:511])
	targeted(t, "/a"+strings.Repeat("%41", 170), "/a"+strings.Repeat("%41", 170), "")
	targetedNot(t, "/ab"+strings.Repeat("%41", 170))
	targetedNot(t, "/"+strings.Repeat("a", 1<<20))
	targetedNot(t, "/?"+strings.Repeat("a", 1<<20))
	targetedNot(t, strings.Repeat("%", 1<<20))
}

// P7.1: a reply's line.
func TestStatus(t *testing.T) {
	for _, c := range []struct {
		s      string
		code   int
		reason string
	}{
		{"HTTP/1.1 200 OK", 200, "OK"},
		{"HTTP/1.1 101 Switching Protocols", 101, "Switching Protocols"},
		{"HTTP/1.1 100 ", 100, ""},
		{"HTTP/1.1 599 x", 599, "x"},
		{"HTTP/1.1 299 Status", 299, "Status"},
		// the reason begins behind one blank, and ends at the end
		{"HTTP/1.1 200  ", 200, " "},
		{"HTTP/1.1 200  OK", 200, " OK"},
		{"HTTP/1.1 200 \tOK \t", 200, "\tOK \t"},
		{"HTTP/1.1 200 O  K", 200, "O  K"},
		{"HTTP/1.1 200 a:b", 200, "a:b"},
		{"HTTP/1.1 200 : ", 200, ": "},
		{"HTTP/1.1 200 404 Not Found", 200, "404 Not Found"},
		{"HTTP/1.1 200 HTTP/1.1 404 x", 200, "HTTP/1.1 404 x"},
		{"HTTP/1.1 200 \xff\x80\xc3\xa9", 200, "\xff\x80\xc3\xa9"},
		{"HTTP/1.1 200 " + values(), 200, values()},
		{"HTTP/1.1 200 " + strings.Repeat("a ", 1<<19), 200, strings.Repeat("a ", 1<<19)},
	} {
		replied(t, c.s, c.code, c.reason)
	}
}

// P7.1: what is no reply's line.
func TestStatusWrong(t *testing.T) {
	for _, s := range []string{
		"", " ", "  ", "HTTP/1.1", "HTTP/1.1 ", "HTTP/1.1  ", "HTTP/1.1 200", "HTTP/1.1 2", "HTTP/1.1 20 x", "HTTP/1.1 2000 x", "HTTP/1.1 0200 x", "HTTP/1.1 x 200",
		"HTTP/1.1 200OK", "HTTP/1.1 200\tOK", "HTTP/1.1\t200 OK", "HTTP/1.1  200 OK", " HTTP/1.1 200 OK", "HTTP/1.1200 OK", "200 OK", " 200 OK", "HTTP/1.1 OK",
		"HTTP/1.0 200 OK", "HTTP/1.2 200 OK", "HTTP/2 200 OK", "HTTP/2.0 200 OK", "http/1.1 200 OK", "Http/1.1 200 OK", "HTTP/1.1a 200 OK", "aHTTP/1.1 200 OK", "HTTP/1. 200 OK",
		"HTTP/1.1 +20 x", "HTTP/1.1 -20 x", "HTTP/1.1 -200 x", "HTTP/1.1 2_0 x", "HTTP/1.1 0x1 x", "HTTP/1.1 2.0 x", "HTTP/1.1 2e2 x", "HTTP/1.1 \u0662\u0660\u0660 x", "HTTP/1.1 \xb2\xb0\xb0 x",
		"HTTP/1.1 099 x", "HTTP/1.1 000 x", "HTTP/1.1 600 x", "HTTP/1.1 999 x", "HTTP/1.1 1000 x",
		"HTTP/1.1 200 OK\r\n", "HTTP/1.1 200 OK\r", "HTTP/1.1 200 OK\n", "HTTP/1.1 200 \r\n", "HTTP/1.1 200\r\n", "\r\nHTTP/1.1 200 OK", "HTTP/1.1 200 O\r\nK", "HTTP/1.1 200 O\x00K", "HTTP/1.1 200 \x7f", "HTTP/1.1 200 \x1f",
		"GET / HTTP/1.1", strings.Repeat(" ", 1<<20), "HTTP/1.1 " + strings.Repeat("1", 1<<20) + " x", "HTTP/1.1 200 " + strings.Repeat("a", 1<<20) + "\n",
	} {
		repliedNot(t, s)
	}
}

// P7.1: all codes of three digits, and whatever byte stands for one of them.
func TestStatusCodes(t *testing.T) {
	for code := range 1100 {
		s := strconv.Itoa(code)
		if code < 1000 {
			s = ("00" + s)[len(s)-1:]
		}
		if code >= 100 && code <= 599 {
			replied(t, "HTTP/1.1 "+s+" x", code, "x")
			replied(t, "HTTP/1.1 "+s+" ", code, "")
		} else {
			repliedNot(t, "HTTP/1.1 "+s+" x")
		}
		repliedNot(t, "HTTP/1.1 "+s)
	}
	for b := range 256 {
		for i := range 3 {
			s := "234"[:i] + one(b) + "234"[i+1:]
			if n, err := strconv.Atoi(s); err == nil && n >= 100 && n <= 599 && has(digits, b) {
				replied(t, "HTTP/1.1 "+s+" x", n, "x")
			} else {
				repliedNot(t, "HTTP/1.1 "+s+" x")
			}
		}
	}
}

// P7.1: whatever byte stands wherever in the reason, in the version, and for a blank.
func TestStatusBytes(t *testing.T) {
	const begin = "HTTP/1.1 200 "
	for b := range 256 {
		for _, s := range around(b) {
			if has(values(), b) {
				replied(t, begin+s, 200, s)
			} else {
				repliedNot(t, begin+s)
			}
		}
		for i := range len(begin) {
			s := begin[:i] + one(b) + begin[i+1:] + "x"
			switch {
			case s == begin+"x":
				replied(t, s, 200, "x")
			case i >= 9 && i < 12 && has(digits, b): // the codes stand above
			default:
				repliedNot(t, s)
			}
		}
	}
	for i := range len(begin) {
		repliedNot(t, begin[:i])
		repliedNot(t, begin[i+1:]+"x")
	}
}

// text is from least to most of these bytes, drawn.
func text(r *rand.Rand, of string, least, most int) string {
	s := make([]byte, least+r.Intn(most-least+1))
	for i := range s {
		s[i] = of[r.Intn(len(of))]
	}
	return string(s)
}

// escaped is up to most of these bytes, and % with two digits among them, drawn.
func escaped(r *rand.Rand, of string, most int) string {
	s := ""
	for range r.Intn(most + 1) {
		if r.Intn(4) == 0 {
			s += "%" + text(r, sixteen, 2, 2)
		} else {
			s += text(r, of, 1, 1)
		}
	}
	return s
}

// P7.2: a method, a target and a version, with blanks between, are a line of these.
func TestLines(t *testing.T) {
	r := rand.New(rand.NewSource(7))
	for range 20000 {
		method, target := text(r, tokens, 1, 8), text(r, targets(), 1, 12)
		parses(t, method+" "+target+" HTTP/1.0", method, target, 10)
		parses(t, method+" "+target+" HTTP/1.1", method, target, 11)
	}
}

// P7.2: a path and a query, with ? between, are a target of these; a path alone is one without a query.
func TestTargets(t *testing.T) {
	r := rand.New(rand.NewSource(8))
	for range 20000 {
		path, query := "/"+escaped(r, paths, 10), escaped(r, queries, 10)
		targeted(t, path, path, "")
		targeted(t, path+"?"+query, path, query)
		parses(t, "GET "+path+"?"+query+" HTTP/1.1", "GET", path+"?"+query, 11)
	}
}

// P7.1: a code and a reason are a reply's line of these.
func TestReplies(t *testing.T) {
	r := rand.New(rand.NewSource(9))
	for range 20000 {
		code, reason := 100+r.Intn(500), text(r, values(), 0, 10)
		replied(t, "HTTP/1.1 "+strconv.Itoa(code)+" "+reason, code, reason)
	}
}

// isLine says plainly, by the parts between the blanks, whether s is a request's line.
func isLine(s string) bool {
	l := strings.Split(s, " ")
	if len(l) != 3 || !field.Token(l[0]) || l[1] == "" || l[2] != "HTTP/1.0" && l[2] != "HTTP/1.1" {
		return false
	}
	return strings.Trim(l[1], targets()) == ""
}

// isOrigin says plainly whether s is a target in origin form: what is left once escapes, and then characters, are taken out.
func isOrigin(s string) bool {
	if len(s) > 512 || s == "" || s[0] != '/' {
		return false
	}
	left := []byte{}
	for i := 0; i < len(s); i++ {
		if s[i] == '%' && i+2 < len(s) && has(sixteen, int(s[i+1])) && has(sixteen, int(s[i+2])) {
			i += 2
			continue
		}
		left = append(left, s[i])
	}
	return strings.Trim(string(left), queries) == ""
}

// P7.1: of any text what is told is what the words say, and what is told joins to the text again.
func TestAny(t *testing.T) {
	r := rand.New(rand.NewSource(10))
	lines, origins := 0, 0
	for range 60000 {
		s := text(r, "G/ ", 1, 3) + text(r, " ", 0, 1) + text(r, "/*a?\t\x7f", 0, 3) + text(r, " ", 0, 2) + []string{"HTTP/1.1", "HTTP/1.0", "HTTP/1.", "", "HTTP/1.1 "}[r.Intn(5)]
		if method, target, version, ok := Parse(s); ok != isLine(s) {
			t.Errorf("Parse(%q): %v", s, ok)
		} else if ok {
			lines++
			if method+" "+target+" HTTP/1."+strconv.Itoa(version-10) != s {
				t.Errorf("Parse(%q): %q, %q, %d", s, method, target, version)
			}
		} else {
			parsesNot(t, s)
		}
		s = text(r, "//a", 0, 1) + text(r, "aF09%/?%gG#\xff", 0, 6)
		if path, query, ok := Target(s); ok != isOrigin(s) {
			t.Errorf("Target(%q): %v", s, ok)
		} else if ok {
			origins++
			if has(path, '?') || path+"?"+query != s && path+query != s || path == s && query != "" {
				t.Errorf("Target(%q): %q, %q", s, path, query)
			}
		} else {
			targetedNot(t, s)
		}
	}
	if lines < 100 || origins < 100 {
		t.Error("too few were right:", lines, origins)
	}
}

// R3: what is answered hangs on the argument alone.
func TestAgain(t *testing.T) {
	for range 3 {
		parses(t, "GET /a HTTP/1.1", "GET", "/a", 11)
		parsesNot(t, "GET /a HTTP/1.3")
		targeted(t, "/a?b", "/a", "b")
		targetedNot(t, "/a#")
		replied(t, "HTTP/1.1 200 OK", 200, "OK")
		repliedNot(t, "HTTP/1.1 200")
	}
}
