package request

import (
	"math/rand"
	"reflect"
	"regexp"
	"slices"
	"strconv"
	"strings"
	"testing"

	"crier/api"
	"crier/chunk"
	"crier/field"
)

// told is what a parser says of what it was fed.
type told struct {
	requests []api.Request
	bad      int
	rest     string // what was fed and not taken; nothing, if something was wrong
}

// lines is s with CR LF in the place of each |.
func lines(s string) string { return strings.ReplaceAll(s, "|", "\r\n") }

// one is the text of the byte b.
func one(b int) string { return string([]byte{byte(b)}) }

// bytesOf are the bytes of s, each one a piece.
func bytesOf(s string) []string {
	var l []string
	for i := range len(s) {
		l = append(l, s[i:i+1])
	}
	return l
}

// brief is a text that is short enough to be shown.
func brief(s string) string {
	if len(s) > 300 {
		return strconv.Quote(s[:200]) + ".." + strconv.Quote(s[len(s)-40:]) + " of " + strconv.Itoa(len(s))
	}
	return strconv.Quote(s)
}

// fed is what a parser says that New made, and that is fed the pieces, and asked behind each.
func fed(t *testing.T, pieces ...string) told {
	t.Helper()
	p := New()
	var got told
	for _, s := range pieces {
		p.Feed(s)
		for r, ok := p.Next(); ok; r, ok = p.Next() {
			got.requests = append(got.requests, r)
		}
		got.bad = p.Bad()
	}
	return last(t, p, got)
}

// last is got with the rest of p, which was asked all.
func last(t *testing.T, p *Parser, got told) told {
	t.Helper()
	if r, ok := p.Next(); ok || !reflect.DeepEqual(r, api.Request{}) {
		t.Error("no nothing behind a nothing")
	}
	got.bad = p.Bad()
	idle := p.Idle()
	got.rest = p.Rest()
	if idle != (got.rest == "" && got.bad == 0) || p.Bad() != got.bad || p.Idle() != (got.bad == 0) {
		t.Error("idle", idle, "of", brief(got.rest), got.bad, "and then", p.Bad(), p.Idle())
	}
	return got
}

// same says whether two parsers say the same.
func same(a, b told) bool {
	return a.bad == b.bad && a.rest == b.rest && slices.EqualFunc(a.requests, b.requests, alike)
}

// alike says whether two requests are the same; a list without elements is as none.
func alike(a, b api.Request) bool {
	if !slices.Equal(a.Fields, b.Fields) {
		return false
	}
	a.Fields, b.Fields = nil, nil
	return reflect.DeepEqual(a, b)
}

// says says whether a parser that is fed s, at once, byte by byte, and in two pieces, says this.
func says(t *testing.T, s string, want told) {
	t.Helper()
	if got := fed(t, s); !same(got, want) {
		t.Errorf("%s: %+v, want %+v", brief(s), got, want)
	}
	if got := fed(t, bytesOf(s)...); !same(got, want) {
		t.Errorf("%s, byte by byte: %+v, want %+v", brief(s), got, want)
	}
	for _, at := range []int{1, len(s) / 3, len(s) / 2, len(s) - 1} {
		if at < 0 || at > len(s) {
			continue
		}
		if got := fed(t, s[:at], "", s[at:]); !same(got, want) {
			t.Errorf("%s, cut at %d: %+v, want %+v", brief(s), at, got, want)
		}
	}
	p := New()
	for _, b := range bytesOf(s) {
		p.Feed(b)
		if p.Bad() != 0 {
			t.Errorf("%s: bad ahead of Next", brief(s))
		}
	}
	var late told
	for r, ok := p.Next(); ok; r, ok = p.Next() {
		late.requests = append(late.requests, r)
	}
	if got := last(t, p, late); !same(got, want) {
		t.Errorf("%s, asked late: %+v, want %+v", brief(s), got, want)
	}
}

// is says whether s is one request, this one, whatever stands behind it.
func is(t *testing.T, s string, want api.Request) {
	t.Helper()
	says(t, s, told{requests: []api.Request{want}})
	says(t, s+"\x00", told{requests: []api.Request{want}, rest: "\x00"})
	says(t, s+s, told{requests: []api.Request{want, want}})
	goesOn(t, s[:len(s)-1])
}

// mayBe says whether s is one request.
func mayBe(t *testing.T, s string) {
	t.Helper()
	got := fed(t, s)
	if len(got.requests) != 1 || got.rest != "" {
		t.Errorf("%s: %d", brief(s), got.bad)
	}
	says(t, s, got)
}

// goesOn says whether s is the beginning of a request.
func goesOn(t *testing.T, s string) {
	t.Helper()
	says(t, s, told{rest: s})
}

// fails says whether s is wrong, whatever stands behind it, and no byte less is.
func fails(t *testing.T, s string, bad int) {
	t.Helper()
	goesOn(t, s[:len(s)-1])
	wrong(t, s, bad)
}

// wrong says whether s is wrong, whatever stands ahead of it, and behind.
func wrong(t *testing.T, s string, bad int) {
	t.Helper()
	says(t, s, told{bad: bad})
	says(t, s+"\r\n\r\nGET / HTTP/1.0\r\n\r\n", told{bad: bad})
	says(t, "GET / HTTP/1.0\r\n\r\n"+s, told{[]api.Request{{Method: "GET", Path: "/", Version: 10, Close: true}}, bad, ""})
}

// fields are the fields of these lines, name and value with ": " between.
func fields(lines ...string) []api.Field {
	var l []api.Field
	for _, s := range lines {
		name, value, _ := strings.Cut(s, ": ")
		l = append(l, api.Field{Name: name, Value: value})
	}
	return l
}

// headText is the head of these lines.
func headText(lines ...string) string {
	return strings.Join(lines, "\r\n") + "\r\n\r\n"
}

// Of the plain parser: what may stand in a head.
var (
	plainLine   = regexp.MustCompile("^([-!#$%&'*+.^_`|~0-9A-Za-z]+) ([!-~]+) HTTP/1\\.([01])$")
	plainTarget = regexp.MustCompile(`^(/(?:[-A-Za-z0-9._~!$&'()*+,;=:@/]|%[0-9a-fA-F]{2})*)(\?((?:[-A-Za-z0-9._~!$&'()*+,;=:@/?]|%[0-9a-fA-F]{2})*))?$`)
	plainField  = regexp.MustCompile("^([-!#$%&'*+.^_`|~0-9A-Za-z]+):[ \t]*(.*?)[ \t]*$")
	plainOther  = regexp.MustCompile("[\\x00-\\x08\\x0a-\\x1f\\x7f]")
	plainClose  = regexp.MustCompile("^(?i)(.*,)?[ \t]*close[ \t]*(,.*)?$")
)

// plain is what a parser should say of s.
func plain(s string) told {
	var l []api.Request
	for {
		i := strings.Index(s, "\r\n\r\n")
		if i < 0 && len(s) < 2048 {
			return told{requests: l, rest: s}
		}
		if i < 0 || i+4 > 2048 {
			return told{requests: l, bad: 431}
		}
		r, body, bad := plainHead(s[:i])
		if bad != 0 {
			return told{requests: l, bad: bad}
		}
		n := body
		if body >= 0 {
			r.Body = s[i+4 : min(i+4+body, len(s))]
			if len(r.Body) < body {
				return told{requests: l, rest: s}
			}
		} else {
			c := chunk.New()
			n = c.Feed(s[i+4:])
			if c.Bad() != 0 {
				return told{requests: l, bad: c.Bad()}
			}
			if !c.Done() {
				return told{requests: l, rest: s}
			}
			r.Body = c.Data()
		}
		l = append(l, r)
		s = s[i+4+n:]
	}
}

// plainHead is the request of a head without its end, and how long its body is, -1 in chunks.
func plainHead(s string) (r api.Request, body, bad int) {
	all := strings.Split(s, "\r\n")
	if len(all) > 33 {
		return r, 0, 431
	}
	first := plainLine.FindStringSubmatch(all[0])
	if first == nil || len(first[2]) > 512 {
		return r, 0, 400
	}
	target := plainTarget.FindStringSubmatch(first[2])
	if target == nil {
		return r, 0, 400
	}
	version, _ := strconv.Atoi(first[3])
	r = api.Request{Method: first[1], Path: target[1], Query: target[3], Version: 10 + version, Close: version == 0}
	var hosts int
	var sizes, encodings []string
	for _, s := range all[1:] {
		f := plainField.FindStringSubmatch(s)
		if f == nil || plainOther.MatchString(s) {
			return r, 0, 400
		}
		r.Fields = append(r.Fields, api.Field{Name: f[1], Value: f[2]})
		switch strings.ToLower(f[1]) {
		case "host":
			hosts++
		case "content-length":
			sizes = append(sizes, f[2])
		case "transfer-encoding":
			encodings = append(encodings, strings.ToLower(f[2]))
		case "connection":
			r.Close = r.Close || plainClose.MatchString(f[2])
		}
	}
	if version == 1 && hosts != 1 {
		return r, 0, 400
	}
	if encodings != nil {
		if version == 0 || sizes != nil || !slices.Equal(encodings, []string{"chunked"}) {
			return r, 0, 400
		}
		return r, -1, 0
	}
	body, bad = plainSize(sizes)
	return r, body, bad
}

// plainSize is how long a body is by all fields Content-Length.
func plainSize(l []string) (size, bad int) {
	if l == nil {
		return 0, 0
	}
	if len(slices.Compact(slices.Clone(l))) > 1 || l[0] == "" || strings.ContainsFunc(l[0], func(r rune) bool { return r < '0' || r > '9' }) {
		return 0, 400
	}
	digits := strings.TrimLeft(l[0], "0")
	size, _ = strconv.Atoi("0" + digits[:min(len(digits), 9)])
	if size > 4096 {
		return 0, 413
	}
	return size, 0
}

// plainly says whether a parser says of s what the plain one says.
func plainly(t *testing.T, s string) {
	t.Helper()
	says(t, s, plain(s))
}

// P9.1: the chapter's examples.
func TestExamples(t *testing.T) {
	get := api.Request{Method: "GET", Path: "/a", Query: "b", Version: 11, Fields: fields("Host: x")}
	says(t, lines("GET /a?b HTTP/1.1|Host: x||GET"), told{[]api.Request{get}, 0, "GET"})
	post := api.Request{Method: "POST", Path: "/", Version: 11, Fields: fields("Host: x", "Content-Length: 2"), Body: "hi"}
	is(t, lines("POST / HTTP/1.1|Host: x|Content-Length: 2||hi"), post)
	fails(t, lines("GET / HTTP/1.1||"), 400)
	fails(t, lines("GET / HTTP/1.0|Content-Length: 5000||"), 413)
}

// P9.1, P9.2: a parser that was fed nothing, or empty texts.
func TestNew(t *testing.T) {
	for _, p := range []*Parser{New(), {}} {
		for range 2 {
			if r, ok := p.Next(); ok || !reflect.DeepEqual(r, api.Request{}) || p.Bad() != 0 || !p.Idle() || p.Rest() != "" {
				t.Error("not as one that was fed nothing", r, ok, p.Bad(), p.Idle())
			}
			p.Feed("")
		}
		p.Feed("G")
		if p.Idle() || p.Bad() != 0 {
			t.Error("idle with a byte that waits")
		}
		p.Feed(lines("ET /x HTTP/1.0||"))
		if r, ok := p.Next(); !ok || r.Path != "/x" || !p.Idle() {
			t.Error(r, ok, p.Idle())
		}
	}
}

// P9.1: what a request says: its method, path, query, version, fields in order as they stand, body.
func TestRequests(t *testing.T) {
	is(t, lines("GET / HTTP/1.0||"), api.Request{Method: "GET", Path: "/", Version: 10, Close: true})
	is(t, lines("get /? HTTP/1.1|hOST:||"), api.Request{Method: "get", Path: "/", Version: 11, Fields: []api.Field{{Name: "hOST"}}})
	is(t, "~ /%2F%2e?a=b?c HTTP/1.0\r\nB: \t2 , 3\t \r\nA:1\r\nB:\xff\r\nHost: x\r\nHost: y\r\n\r\n",
		api.Request{Method: "~", Path: "/%2F%2e", Query: "a=b?c", Version: 10, Close: true,
			Fields: []api.Field{{Name: "B", Value: "2 , 3"}, {Name: "A", Value: "1"}, {Name: "B", Value: "\xff"}, {Name: "Host", Value: "x"}, {Name: "Host", Value: "y"}}})
	is(t, lines("PUT /a//b HTTP/1.1|Host: x|Transfer-Encoding: cHUNKED||2;x|hi|1|!|0|T: x||"),
		api.Request{Method: "PUT", Path: "/a//b", Version: 11, Fields: fields("Host: x", "Transfer-Encoding: cHUNKED"), Body: "hi!"})
	is(t, lines("PUT / HTTP/1.1|transfer-encoding:chunked|Host: x||0||"),
		api.Request{Method: "PUT", Path: "/", Version: 11, Fields: fields("transfer-encoding: chunked", "Host: x")})
	is(t, lines("PUT / HTTP/1.0|CONTENT-length: 007|content-LENGTH:007||\r\n\r\n\x00\xff0"),
		api.Request{Method: "PUT", Path: "/", Version: 10, Close: true, Fields: fields("CONTENT-length: 007", "content-LENGTH: 007"), Body: "\r\n\r\n\x00\xff0"})
	is(t, lines("PUT / HTTP/1.0|Content-Length: 0||"),
		api.Request{Method: "PUT", Path: "/", Version: 10, Close: true, Fields: fields("Content-Length: 0")})
}

// P9.1: Close is told by the version and by all fields Connection.
func TestClose(t *testing.T) {
	for _, c := range []struct {
		head  string
		close bool
	}{
		{"GET / HTTP/1.1|Host: x", false},
		{"GET / HTTP/1.0|Connection: keep-alive", true},
		{"GET / HTTP/1.1|Host: x|Connection: close", true},
		{"GET / HTTP/1.1|Host: x|cONNECTION:CLOSE", true},
		{"GET / HTTP/1.1|Host: x|Connection: a, close ,b", true},
		{"GET / HTTP/1.1|Host: x|Connection: a|X: b|Connection: close", true},
		{"GET / HTTP/1.1|Host: x|Connection: closed", false},
		{"GET / HTTP/1.1|Host: x|Connection: a close", false},
		{"GET / HTTP/1.1|Host: close|Connection: keep-alive|Proxy-Connection: close", false},
		{"GET / HTTP/1.1|Host: x|Connection:", false},
	} {
		s := lines(c.head + "||")
		got := fed(t, s)
		if len(got.requests) != 1 || got.requests[0].Close != c.close {
			t.Errorf("%q: %v", s, got.requests)
		}
		plainly(t, s)
	}
}

// P9.1: 431 of a head that is too long: MaxHead bytes with its end may be, one more may not.
func TestLongHeads(t *testing.T) {
	for _, begins := range []string{"GET / HTTP/1.0\r\nx:", "GET / HTTP/1.1\r\nHost: x\r\nX: ", "\x00", "", "\r\n"} {
		fill := api.MaxHead - 4 - len(begins)
		whole := begins + strings.Repeat("y", fill) + "\r\n\r\n"
		if strings.HasPrefix(begins, "GET") {
			mayBe(t, whole)
			goesOn(t, whole[:api.MaxHead-1])
		} else {
			fails(t, whole, 400)
		}
		fails(t, begins+strings.Repeat("y", fill+1)+"\r\n\r", 431)
		wrong(t, begins+strings.Repeat("y", fill+1)+"\r\n\r\n", 431)
		fails(t, begins+strings.Repeat("y", fill+4), 431)
	}
	fails(t, strings.Repeat("\r", api.MaxHead), 431)
	fails(t, strings.Repeat("\n", api.MaxHead), 431)
	// what stands ahead of a head, and a body, do not count
	body := lines("POST / HTTP/1.0|Content-Length: 4096||") + strings.Repeat("b", 4096)
	says(t, body+body, plain(body+body))
	if got := plain(body + body); len(got.requests) != 2 || got.bad != 0 {
		t.Error("the plain parser", got.bad)
	}
}

// P9.1: 431 of more fields than MaxFields.
func TestManyFields(t *testing.T) {
	const first = "GET / HTTP/1.1\r\n"
	most := "Host:\r\n" + strings.Repeat("a:b\r\n", api.MaxFields-1)
	mayBe(t, first+most+"\r\n")
	fails(t, first+most+"a:\r\n\r\n", 431)
	fails(t, first+most+"Host:\r\n\r\n", 431)
	fails(t, "GET  / HTTP/1.1\r\n"+most+"a:\r\n\r\n", 431)
	fails(t, first+strings.Repeat("a:\r\n", 500)+"\r\n", 431)
	// the lines behind the first one count, whether they may be or not
	fails(t, first+most+"a\r\n\r\n", 431)
	// fewer, but one of the lines is none of a field
	fails(t, first+most[len("Host:\r\n"):]+"Host\r\n\r\n", 400)
}

// P9.1: 400 of a first line that is none, or a target that is none in origin form.
func TestFirstLines(t *testing.T) {
	for _, s := range []string{
		"", " ", "GET", "GET /", "GET / ", "GET / HTTP/1.2", "GET / HTTP/2.0", "GET / http/1.0", "GET / HTTP/1.0 ", " GET / HTTP/1.0",
		"GET  / HTTP/1.0", "GET /  HTTP/1.0", "GET\t/ HTTP/1.0", "G@T / HTTP/1.0", "GET /\x80 HTTP/1.0", "GET /\x7f HTTP/1.0", "/ HTTP/1.0",
		"GET * HTTP/1.0", "GET a HTTP/1.0", "GET http://x/ HTTP/1.0", "CONNECT x:80 HTTP/1.0", "GET ?a HTTP/1.0", "GET /%2 HTTP/1.0", "GET /%zz HTTP/1.0",
		"GET /a#b HTTP/1.0", "GET /?a#b HTTP/1.0", "GET /[ HTTP/1.0", "GET /?% HTTP/1.0", "Host: x", "GET / HTTP/1.0\r", "\rGET / HTTP/1.0", "\nGET / HTTP/1.0",
		"GET / HTTP/1.0\nA: b", "GET /\r HTTP/1.0", "HTTP/1.1 200 OK",
	} {
		fails(t, headText(s, "Host: x"), 400)
		fails(t, headText(s), 400)
	}
	wrong(t, lines("|GET / HTTP/1.0||"), 400)
	fails(t, "\r\n\r\n", 400)
	mayBe(t, headText("GET /"+strings.Repeat("a", api.MaxTarget-1)+" HTTP/1.0"))
	fails(t, headText("GET /"+strings.Repeat("a", api.MaxTarget)+" HTTP/1.0"), 400)
	mayBe(t, headText("GET /?"+strings.Repeat("a", api.MaxTarget-2)+" HTTP/1.0"))
	fails(t, headText("GET /?"+strings.Repeat("a", api.MaxTarget-1)+" HTTP/1.0"), 400)
	mayBe(t, headText(strings.Repeat("M", 2000)+" / HTTP/1.0"))
}

// P9.1: 400 of a line that is no field's, or has a CR or a LF.
func TestOtherLines(t *testing.T) {
	for _, s := range []string{
		"a", " a: b", "a : b", ": b", ":", " ", "a: \x00", "a: \x7f", "a: b\r", "\ra: b", "a:\rb", "a: b\n", "\na: b", "a: b\nc: d", "a: b\r\r", "a\x80: b", "\ta: b",
	} {
		fails(t, headText("GET / HTTP/1.0", s), 400)
		fails(t, headText("GET / HTTP/1.0", s, "c: d"), 400)
		fails(t, headText("GET / HTTP/1.0", "c: d", s), 400)
	}
	goesOn(t, "GET / HTTP/1.0\n\nA: b\n\n")
	goesOn(t, "GET / HTTP/1.0\r\n\r\r\n\n\n\r\n\r")
}

// P9.1: 400 with the version 11 and not just one field Host.
func TestHosts(t *testing.T) {
	fails(t, headText("GET / HTTP/1.1"), 400)
	fails(t, headText("GET / HTTP/1.1", "Hos: x", "Hostt: x", "X: Host"), 400)
	fails(t, headText("GET / HTTP/1.1", "Host: x", "Host: x"), 400)
	fails(t, headText("GET / HTTP/1.1", "Host: x", "A: b", "hOST: y"), 400)
	mayBe(t, headText("GET / HTTP/1.1", "HOST:"))
	mayBe(t, headText("GET / HTTP/1.1", "host: x, y"))
	mayBe(t, headText("GET / HTTP/1.0"))
	mayBe(t, headText("GET / HTTP/1.0", "Host: x"))
	mayBe(t, headText("GET / HTTP/1.0", "Host: x", "Host: y"))
}

// P9.1: 400 of a Transfer-Encoding that may not be.
func TestEncodings(t *testing.T) {
	const first, x = "PUT / HTTP/1.1", "Host: x"
	mayBe(t, headText(first, x, "Transfer-Encoding: chunked")+lines("0||"))
	mayBe(t, headText(first, x, "tRANSFER-eNCODING:\tCHUNKED ")+lines("0||"))
	fails(t, headText("PUT / HTTP/1.0", x, "Transfer-Encoding: chunked"), 400)
	fails(t, headText("PUT / HTTP/1.0", "Transfer-Encoding: chunked"), 400)
	fails(t, headText(first, x, "Transfer-Encoding: chunked", "Content-Length: 2"), 400)
	fails(t, headText(first, x, "Content-Length: 5000", "Transfer-Encoding: chunked"), 400)
	fails(t, headText(first, x, "Transfer-Encoding: chunked", "Content-Length:"), 400)
	fails(t, headText(first, x, "Transfer-Encoding: chunked", "Transfer-Encoding: chunked"), 400)
	fails(t, headText(first, x, "Transfer-Encoding: chunked", "A: b", "transfer-encoding: gzip"), 400)
	for _, s := range []string{"", "gzip", "gzip, chunked", "chunked, chunked", "chunked,", ",chunked", "chunke", "chunkedd", "chunked;a", "identity"} {
		fails(t, headText(first, x, "Transfer-Encoding: "+s), 400)
	}
	mayBe(t, headText(first, x, "TE: chunked", "Transfer-Encodin: x"))
}

// P9.1: 400 of a Content-Length that may not be, 413 of one that is too much.
func TestLengths(t *testing.T) {
	for _, s := range []string{"", "a", "-1", "+1", "1a", "a1", "1a1", "1 1", "1,1", "1, 1", "0x1", "1.", "1.0", "1e3", "\xb2", "9999999999999999999x", "\u0663"} {
		fails(t, headText("PUT / HTTP/1.0", "Content-Length: "+s), 400)
		fails(t, headText("PUT / HTTP/1.0", "Content-Length: 1", "Content-Length: "+s), 400)
		fails(t, headText("PUT / HTTP/1.0", "Content-Length: "+s, "Content-Length: "+s), 400)
	}
	for _, s := range []string{"1", "01", "5000", "10"} {
		fails(t, headText("PUT / HTTP/1.0", "Content-Length: 001", "A: b", "content-length: "+s), 400)
		fails(t, headText("PUT / HTTP/1.0", "Content-Length: 001", "content-length: 001", "content-length: "+s), 400)
	}
	for _, s := range []string{"4096", "04096", strings.Repeat("0", 1900) + "4096"} {
		mayBe(t, headText("PUT / HTTP/1.0", "Content-Length: "+s)+strings.Repeat("\n", 4096))
		mayBe(t, headText("PUT / HTTP/1.0", "Content-Length: 4096", "Content-Length: 4096")+strings.Repeat("\n", 4096))
	}
	for _, s := range []string{"4097", "5000", "10000", "004097", "4294967296", "4294967297", "9223372036854775808", "18446744073709551616", "18446744073709551617", strings.Repeat("9", 1900), "1" + strings.Repeat("0", 1900)} {
		fails(t, headText("PUT / HTTP/1.0", "Content-Length: "+s), 413)
	}
	fails(t, headText("PUT / HTTP/1.0", "Content-Length: 4097", "Content-Length: 4097"), 413)
	for n := range 300 {
		body := strings.Repeat("b", n)
		is(t, headText("PUT / HTTP/1.0", "Content-Length: "+strconv.Itoa(n))+body, api.Request{Method: "PUT", Path: "/", Version: 10, Close: true, Fields: fields("Content-Length: " + strconv.Itoa(n)), Body: body})
	}
}

// P9.1: what is wrong of the chunks, at the byte by which it is; a body ahead of that is none.
func TestChunks(t *testing.T) {
	head := headText("PUT / HTTP/1.1", "Host: x", "Transfer-Encoding: chunked")
	for s, bad := range map[string]int{
		"x|":     400,
		"\n":     400,
		"3|abcd": 400,
		"1001|":  413,
		"fff|" + strings.Repeat("b", 4095) + "|2|": 413,
		"0|a|":   400,
		"0;\r\r": 400,
		"0|" + strings.Repeat("a:|", api.MaxFields+1): 431,
		strings.Repeat("0", api.MaxHead+1):            431,
		"0|a:" + strings.Repeat("b", api.MaxHead-1):   431,
	} {
		fails(t, head+lines(s), bad)
	}
	mayBe(t, head+lines("1000|")+strings.Repeat("b", 4096)+lines("|0||"))
	mayBe(t, head+lines("fff|")+strings.Repeat("b", 4095)+lines("|1|b|0||"))
	mayBe(t, head+lines("0|"+strings.Repeat("a:|", api.MaxFields)+"|"))
}

// P9.1: of several faults the one that the chapter names first.
func TestOrder(t *testing.T) {
	junk := strings.Repeat("\x00", api.MaxHead)
	wrong(t, "\r\n"+junk, 431)
	wrong(t, "x\r\ny\r\n"+strings.Repeat("a:b\r\n", 40)+junk, 431)
	many := slices.Repeat([]string{"a: b"}, api.MaxFields+1)
	fails(t, headText(append([]string{"x"}, many...)...), 431)
	fails(t, headText(append([]string{"GET / HTTP/1.1"}, many...)...), 431)
	fails(t, headText(append([]string{"GET / HTTP/1.0", "Content-Length: 5000"}, many[1:]...)...), 431)
	fails(t, headText(append([]string{"GET / HTTP/1.0", "Content-Length: x"}, many[1:]...)...), 431)
	fails(t, headText("GET / HTTP/1.1", "Content-Length: 5000"), 400)
	fails(t, headText("GET * HTTP/1.0", "Content-Length: 5000"), 400)
	fails(t, headText("GET / HTTP/1.0", "Content-Length: 5000", "x"), 400)
	// a fault of a body stands behind the head's, one of the next request behind the body
	wrong(t, headText("PUT / HTTP/1.1", "Transfer-Encoding: chunked")+lines("1001|"), 400)
	s := headText("PUT / HTTP/1.0", "Content-Length: 3") + "x\r\n" + "\r\n\r\n"
	says(t, s, told{[]api.Request{{Method: "PUT", Path: "/", Version: 10, Close: true, Fields: fields("Content-Length: 3"), Body: "x\r\n"}}, 400, ""})
}

// P9.1, P9.2: when something was wrong, it is for good; Next alone tells it.
func TestForGood(t *testing.T) {
	for s, bad := range map[string]int{lines("||"): 400, lines("PUT / HTTP/1.0|Content-Length: 4097||"): 413, strings.Repeat("x", api.MaxHead): 431, headText("PUT / HTTP/1.1", "Host: x", "Transfer-Encoding: chunked") + "1\n": 400} {
		p := New()
		p.Feed(s)
		if p.Bad() != 0 || p.Idle() {
			t.Error("told ahead of Next", p.Bad(), p.Idle())
		}
		for range 3 {
			if r, ok := p.Next(); ok || !reflect.DeepEqual(r, api.Request{}) || p.Bad() != bad || p.Idle() || p.Rest() != "" || p.Bad() != bad {
				t.Errorf("%s: %v %v, %d, %v", brief(s), r, ok, p.Bad(), p.Idle())
			}
			p.Feed(lines("GET / HTTP/1.0||"))
		}
		if p.Rest() != "" {
			t.Error("a rest of one that is bad")
		}
	}
	// what is wrong, but not told yet, is a rest like any other
	p := New()
	p.Feed("\r\n\r\nx")
	if p.Rest() != "\r\n\r\nx" || !p.Idle() || p.Bad() != 0 {
		t.Error("a rest that was not judged")
	}
	p.Feed(lines("GET / HTTP/1.0||"))
	if _, ok := p.Next(); !ok {
		t.Error("not as New made it")
	}
}

// P9.1: what stands ahead of what is wrong are requests, one behind the other.
func TestAhead(t *testing.T) {
	p := New()
	p.Feed(lines("GET /1 HTTP/1.0||PUT /2 HTTP/1.0|Content-Length: 1||bGET /3|GET /4 HTTP/1.0||||GET /5 HTTP/1.0||"))
	for _, path := range []string{"/1", "/2"} {
		if r, ok := p.Next(); !ok || r.Path != path || p.Bad() != 0 || p.Idle() {
			t.Error(r, ok, p.Bad())
		}
	}
	if r, ok := p.Next(); ok || p.Bad() != 400 {
		t.Error(r, ok, p.Bad())
	}
}

// P9.2: Rest takes what waits, wherever it is cut, and the parser is as New made it.
func TestRest(t *testing.T) {
	ahead := lines("GET / HTTP/1.0||")
	for _, s := range []string{
		headText("PUT /x HTTP/1.0", "Content-Length: 12") + "abcdefghijkl",
		headText("PUT /x HTTP/1.1", "Host: x", "Transfer-Encoding: chunked") + lines("2;a|hi|3|abc|0|A: b|C:||"),
		headText("GET /x HTTP/1.1", "Host: x"),
	} {
		for i := range len(s) {
			for _, asked := range []bool{false, true} {
				p := New()
				if asked {
					p.Feed(ahead)
				}
				for _, b := range bytesOf(s[:i]) {
					p.Feed(b)
					if asked {
						p.Next()
					}
				}
				if asked && i == 0 {
					p.Next()
				}
				if p.Idle() != (i == 0) || p.Rest() != s[:i] || !p.Idle() || p.Bad() != 0 || p.Rest() != "" {
					t.Errorf("%q, cut at %d: no rest", s, i)
				}
				p.Feed(lines("P /other HTTP/1.0||"))
				if r, ok := p.Next(); !ok || r.Path != "/other" || r.Body != "" || !p.Idle() {
					t.Errorf("%q, cut at %d: not as New made it: %v, %d", s, i, r, p.Bad())
				}
			}
		}
	}
	p := New()
	p.Feed(ahead + ahead + "\x81\x00")
	p.Next()
	if p.Rest() != ahead+"\x81\x00" {
		t.Error("a request that was not taken is of the rest")
	}
}

// P9.2: of a nil parser nothing, false, 400.
func TestNil(t *testing.T) {
	var p *Parser
	p.Feed(lines("GET / HTTP/1.0||"))
	if r, ok := p.Next(); ok || !reflect.DeepEqual(r, api.Request{}) || p.Bad() != 400 || p.Idle() || p.Rest() != "" {
		t.Error("nil", r, ok)
	}
}

// P9.1, P9.3: each byte, at each place of a short request: put in, put in the place of another, and left out.
func TestAllBytes(t *testing.T) {
	for _, s := range []string{lines("P /?a HTTP/1.1|Host:x||"), lines("P / HTTP/1.0|Content-Length: 1||bG"), lines("P / HTTP/1.1|Host:|Transfer-Encoding: chunked||1|b|0||G")} {
		for i := range len(s) {
			for b := range 256 {
				put := s[:i] + one(b) + s[i:]
				if got := fed(t, put); !same(got, plain(put)) {
					t.Errorf("%q: %+v, want %+v", put, got, plain(put))
				}
				changed := s[:i] + one(b) + s[i+1:]
				if got := fed(t, bytesOf(changed)...); !same(got, plain(changed)) {
					t.Errorf("%q: %+v, want %+v", changed, got, plain(changed))
				}
			}
			plainly(t, s[:i]+s[i+1:])
			plainly(t, s[:i])
		}
	}
}

// P9.3: a request that may be is parsed as it is, whatever stands ahead and behind.
func TestAsItIs(t *testing.T) {
	chance := rand.New(rand.NewSource(9))
	for range 1500 {
		var all string
		var want []api.Request
		for range 1 + chance.Intn(4) {
			s, r := anyRequest(chance)
			all += s
			want = append(want, r)
		}
		rest := []string{"", "\r", "GET", "\x81\x85\x00", "GET / HTTP/1.1\r\nHost"}[chance.Intn(5)]
		for range 3 {
			if got := fed(t, cut(chance, all+rest)...); !same(got, told{want, 0, rest}) {
				t.Fatalf("%s: %+v, want %+v", brief(all+rest), got, want)
			}
		}
	}
}

// anyRequest is a request that may be, as bytes, and as what is parsed of it.
func anyRequest(chance *rand.Rand) (string, api.Request) {
	any := func(l ...string) string { return l[chance.Intn(len(l))] }
	r := api.Request{Method: any("GET", "POST", "x", "!"), Path: any("/", "/a", "/a/%20", "//"), Query: any("", "a=b", "?"), Version: 10 + chance.Intn(2)}
	r.Body = any("", "b", "\r\n\r\n", "0\r\n\r\n", strings.Repeat("z", chance.Intn(api.MaxBody+1)))
	for range chance.Intn(6) {
		r.Fields = append(r.Fields, api.Field{Name: any("A", "b", "X-Y"), Value: any("", "1", "a  b", "\xff", "close")})
	}
	if r.Version == 11 {
		r.Fields = append(r.Fields, api.Field{Name: any("Host", "HOST"), Value: any("", "x")})
	}
	body := r.Body
	if r.Version == 11 && chance.Intn(2) == 0 {
		r.Fields = append(r.Fields, api.Field{Name: any("Transfer-Encoding", "transfer-encoding"), Value: any("chunked", "Chunked")})
		body = inChunks(chance, r.Body)
	} else if r.Body != "" || chance.Intn(2) == 0 {
		r.Fields = append(r.Fields, slices.Repeat([]api.Field{{Name: "Content-Length", Value: any("", "00") + strconv.Itoa(len(r.Body))}}, 1+chance.Intn(2))...)
	}
	if chance.Intn(3) == 0 {
		r.Fields = append(r.Fields, api.Field{Name: "Connection", Value: any("close", "x, Close", "keep-alive")})
	}
	chance.Shuffle(len(r.Fields), func(i, j int) { r.Fields[i], r.Fields[j] = r.Fields[j], r.Fields[i] })
	r.Close = r.Version == 10
	s := r.Method + " " + r.Path
	if r.Query != "" || chance.Intn(4) == 0 {
		s += "?" + r.Query
	}
	s += " HTTP/1." + strconv.Itoa(r.Version-10) + "\r\n"
	for _, f := range r.Fields {
		r.Close = r.Close || f.Name == "Connection" && f.Value != "keep-alive"
		s += f.Name + ":" + any("", " ", "\t ") + f.Value + any("", " ", "\t") + "\r\n"
	}
	return s + "\r\n" + body, r
}

// inChunks is a body in chunks of this text.
func inChunks(chance *rand.Rand, s string) string {
	var b string
	for s != "" {
		n := 1 + chance.Intn(len(s))
		b += strconv.FormatInt(int64(n), 16) + []string{"", ";a=b", ";"}[chance.Intn(3)] + "\r\n" + s[:n] + "\r\n"
		s = s[n:]
	}
	return b + "0\r\n" + []string{"", "T: x\r\n"}[chance.Intn(2)] + "\r\n"
}

// cut is s in pieces.
func cut(chance *rand.Rand, s string) []string {
	var l []string
	most := []int{1, 3, 50, 5000}[chance.Intn(4)]
	for s != "" {
		n := min(1+chance.Intn(most), len(s))
		l = append(l, s[:n])
		s = s[n:]
	}
	return l
}

// P9.1, P9.3: requests that are spoilt by random, cut anyhow, against the plain parser.
func TestSpoilt(t *testing.T) {
	chance := rand.New(rand.NewSource(99))
	odd := []string{"\r", "\n", "\r\n", "\r\n\r\n", ":", " ", ",", "0", "1", "9", "Host: x\r\n", "Content-Length: 3\r\n", "Content-Length: 4097\r\n", "Transfer-Encoding: chunked\r\n", "Connection: close\r\n", "x", "%", "\x00", "\xff", strings.Repeat("a:\r\n", 32), strings.Repeat("y", 2000)}
	seen := map[int]int{}
	for range 6000 {
		var all string
		for range 1 + chance.Intn(3) {
			s, _ := anyRequest(chance)
			if chance.Intn(4) == 0 {
				s = "GET / HTTP/1.0\r\n\r\n"
			}
			all += s
		}
		for range chance.Intn(4) {
			at := chance.Intn(min(len(all), 200) + 1)
			if chance.Intn(2) == 0 { // ahead of a line, as a line of its own
				at += max(0, strings.Index(all[at:], "\n")+1)
			}
			end := at
			if chance.Intn(2) == 0 {
				end = min(at+1+chance.Intn(3), len(all))
			}
			all = all[:at] + odd[chance.Intn(len(odd))] + all[end:]
		}
		want := plain(all)
		seen[want.bad]++
		if got := fed(t, cut(chance, all)...); !same(got, want) {
			t.Fatalf("%s: %+v, want %+v", brief(all), got, want)
		}
	}
	for _, bad := range []int{0, 400, 413, 431} {
		if seen[bad] < 20 {
			t.Error("too few of", bad, seen)
		}
	}
}

// R3: parsers know nothing of one another.
func TestApart(t *testing.T) {
	a, b := New(), New()
	s := headText("PUT /a HTTP/1.0", "Content-Length: 2") + "hi"
	for i := range len(s) {
		a.Feed(s[i : i+1])
		b.Feed("x")
		b.Next()
		if r, ok := a.Next(); ok != (i == len(s)-1) || ok && r.Body != "hi" {
			t.Error(i, r, ok)
		}
	}
	if b.Rest() != strings.Repeat("x", len(s)) || !a.Idle() {
		t.Error("not apart")
	}
}

// R4: what was answered stays, and is no memory of the parser's.
func TestStays(t *testing.T) {
	p := New()
	s := headText("PUT /a?q HTTP/1.1", "Host: x", "Content-Length: 2") + "hi"
	p.Feed(s + s)
	first, _ := p.Next()
	first.Fields[0] = api.Field{Name: "gone"}
	_ = append(first.Fields, api.Field{Name: "more"})
	second, _ := p.Next()
	p.Feed(strings.Repeat("z", 2000))
	p.Next()
	want := api.Request{Method: "PUT", Path: "/a", Query: "q", Version: 11, Fields: fields("Host: x", "Content-Length: 2"), Body: "hi"}
	if !alike(second, want) || first.Fields[0].Name != "gone" || first.Body != "hi" {
		t.Error(first, second)
	}
	rest := p.Rest()
	p.Feed(strings.Repeat("y", 2000))
	if rest != strings.Repeat("z", 2000) {
		t.Error("the rest changed")
	}
}

// R1: many requests at once, and bodies in many chunks with long heads, byte by byte, come to an end soon.
func TestLong(t *testing.T) {
	p := New()
	get := headText("GET /a HTTP/1.1", "Host: x")
	put := headText("PUT /a HTTP/1.1", "Host: x", "Transfer-Encoding: chunked") + lines("1|b|0||")
	const many = 50000
	p.Feed(strings.Repeat(get+put, many))
	n := 0
	for _, ok := p.Next(); ok; _, ok = p.Next() {
		n++
	}
	if n != 2*many || !p.Idle() {
		t.Error(n, p.Bad())
	}
	p.Feed(headText("PUT /a HTTP/1.1", "Host: x", "Transfer-Encoding: chunked"))
	piece := "1;" + strings.Repeat("x", 2040) + "\r\nb\r\n"
	for range 1000 {
		for i := range len(piece) {
			p.Feed(piece[i : i+1])
			if _, ok := p.Next(); ok {
				t.Fatal("a request that is not whole")
			}
		}
	}
	p.Feed(lines("0||"))
	if r, ok := p.Next(); !ok || r.Body != strings.Repeat("b", 1000) || field.Has(r.Body, "c") {
		t.Error(len(r.Body), p.Bad())
	}
}
