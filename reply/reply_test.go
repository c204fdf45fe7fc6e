package reply

import (
	"math/rand"
	"regexp"
	"slices"
	"strconv"
	"strings"
	"testing"

	"crier/api"
)

// told is what Read says.
type told struct {
	r     api.Reply
	close bool
	n     int
	e     api.Errno
}

// The bytes that may stand in a token, and in a value, in order.
var (
	tokens = bytesThat(func(b int) bool {
		return b >= '0' && b <= '9' || b >= 'A' && b <= 'Z' || b >= 'a' && b <= 'z' || has("!#$%&'*+-.^_`|~", b)
	})
	values = bytesThat(func(b int) bool { return b == 9 || b >= 0x20 && b <= 0x7e || b >= 0x80 })
)

// bytesThat are all bytes of which is says so.
func bytesThat(is func(int) bool) string {
	var l []byte
	for b := range 256 {
		if is(b) {
			l = append(l, byte(b))
		}
	}
	return string(l)
}

// lines is s with CR LF in the place of each |.
func lines(s string) string { return strings.ReplaceAll(s, "|", "\r\n") }

// one is the text of the byte b.
func one(b int) string { return string([]byte{byte(b)}) }

// has says whether the byte b stands in s.
func has(s string, b int) bool { return strings.IndexByte(s, byte(b)) >= 0 }

// many are n bytes of a text.
func many(n int) string { return strings.Repeat("x", n) }

// brief is a text that is short enough to be shown.
func brief(s string) string {
	if len(s) > 300 {
		return strconv.Quote(s[:200]) + ".." + strconv.Quote(s[len(s)-40:]) + " of " + strconv.Itoa(len(s))
	}
	return strconv.Quote(s)
}

// show is a reply that is short enough to be shown.
func show(r api.Reply) string {
	s := strconv.Itoa(r.Code)
	for _, f := range r.Fields[:min(len(r.Fields), 10)] {
		s += " " + brief(f.Name) + ": " + brief(f.Value)
	}
	return s + " of " + strconv.Itoa(len(r.Fields)) + " " + brief(r.Body)
}

// String is what Read says, short enough to be shown.
func (g told) String() string {
	return show(g.r) + " " + strconv.FormatBool(g.close) + " " + strconv.Itoa(g.n) + " " + strconv.Itoa(int(g.e))
}

// fields are the fields of these lines, name and value with a colon between.
func fields(lines ...string) []api.Field {
	var l []api.Field
	for _, s := range lines {
		name, value, _ := strings.Cut(s, ":")
		l = append(l, api.Field{Name: name, Value: value})
	}
	return l
}

// reply is one of a code, a body, and fields, as lines.
func reply(code int, body string, lines ...string) api.Reply {
	return api.Reply{Code: code, Fields: fields(lines...), Body: body}
}

// alike says whether two replies are the same; a list without elements is as none.
func alike(a, b api.Reply) bool {
	return a.Code == b.Code && a.Body == b.Body && slices.Equal(a.Fields, b.Fields)
}

// same says whether Read says the same twice.
func same(a, b told) bool {
	return a.close == b.close && a.n == b.n && a.e == b.e && alike(a.r, b.r)
}

// read is what Read says.
func read(s string, head bool) told {
	r, close, n, e := Read(s, head)
	return told{r, close, n, e}
}

// reads says whether Read of s says this.
func reads(t *testing.T, s string, head bool, want told) {
	t.Helper()
	if got := read(s, head); !same(got, want) {
		t.Errorf("Read(%s, %v): %v, want %v", brief(s), head, got, want)
	}
}

// is says whether Read reads this reply of all of s, whatever stands behind, and says of its beginnings that they are too short.
func is(t *testing.T, s string, head bool, r api.Reply, close bool) {
	t.Helper()
	want := told{r, close, len(s), api.OK}
	for _, behind := range []string{"", "\r", "\r\n\r\n", "HTTP/1.1 200 OK\r\n\r\n", "\x81\x00", s} {
		reads(t, s+behind, head, want)
	}
	end := strings.Index(s, "\r\n\r\n") + 4
	for i := range len(s) {
		if i < end+5 || i > len(s)-5 || i%1000 == 0 {
			short(t, s[:i], head)
		}
	}
}

// short says whether s is too short.
func short(t *testing.T, s string, head bool) {
	t.Helper()
	reads(t, s, head, told{e: api.ErrShort})
}

// bad says whether s is no reply, whatever stands behind, and whether or not the head alone was asked for.
func bad(t *testing.T, s string) {
	t.Helper()
	for _, head := range []bool{false, true} {
		reads(t, s, head, told{e: api.ErrForm})
		reads(t, s+"\r\n\r\nHTTP/1.1 204 x\r\n\r\n", head, told{e: api.ErrForm})
	}
}

// right says whether r may be, and is written and read.
func right(t *testing.T, r api.Reply) {
	t.Helper()
	if !Right(r) {
		t.Errorf("Right(%s): false", show(r))
	}
	for _, head := range []bool{false, true} {
		for _, close := range []bool{false, true} {
			if r.Code != 101 || !close {
				written(t, r, head, close, plainBytes(r, head, close))
			} else {
				writtenNot(t, r, head, close)
			}
		}
	}
}

// wrong says whether r may not be, and is not written.
func wrong(t *testing.T, r api.Reply) {
	t.Helper()
	if Right(r) {
		t.Errorf("Right(%s): true", show(r))
	}
	for _, head := range []bool{false, true} {
		writtenNot(t, r, head, false)
		writtenNot(t, r, head, true)
	}
}

// written says whether r's bytes are these, and r is read of them.
func written(t *testing.T, r api.Reply, head, close bool, want string) {
	t.Helper()
	got, e := Bytes(r, head, close)
	if got != want || e != api.OK {
		t.Errorf("Bytes(%s, %v, %v): %s, %d, want %s", show(r), head, close, brief(got), e, brief(want))
		return
	}
	back := r
	if head {
		back.Body = ""
	}
	is(t, got, head, back, close)
}

// writtenNot says whether r has no bytes.
func writtenNot(t *testing.T, r api.Reply, head, close bool) {
	t.Helper()
	if got, e := Bytes(r, head, close); got != "" || e != api.ErrArg {
		t.Errorf("Bytes(%s, %v, %v): %s, %d", show(r), head, close, brief(got), e)
	}
}

// plainReasons are all that differ from Status.
var plainReasons = map[int]string{
	101: "Switching Protocols",
	200: "OK",
	400: "Bad Request",
	403: "Forbidden",
	404: "Not Found",
	405: "Method Not Allowed",
	413: "Content Too Large",
	426: "Upgrade Required",
	431: "Request Header Fields Too Large",
}

// plainReason is what the reason of a code should be.
func plainReason(code int) string {
	if s, ok := plainReasons[code]; ok {
		return s
	}
	return "Status"
}

// plainBare says whether a code is that of a bare reply.
func plainBare(code int) bool {
	return code/100 == 1 || code == 204 || code == 304
}

// plainBytes is what the bytes of a reply should be.
func plainBytes(r api.Reply, head, close bool) string {
	l := []string{"HTTP/1.1 " + strconv.Itoa(r.Code) + " " + plainReason(r.Code)}
	for _, f := range r.Fields {
		l = append(l, f.Name+": "+f.Value)
	}
	if !plainBare(r.Code) {
		l = append(l, "Content-Length: "+strconv.Itoa(len(r.Body)))
	}
	if close {
		l = append(l, "Connection: close")
	}
	s := strings.Join(l, "\r\n") + "\r\n\r\n"
	if head {
		return s
	}
	return s + r.Body
}

// Of the plain reader: what may stand in a head.
var (
	plainLine  = regexp.MustCompile("^HTTP/1\\.1 ([1-5][0-9][0-9]) ")
	plainField = regexp.MustCompile("^([-!#$%&'*+.^_`|~0-9A-Za-z]+):[ \t]*(.*?)[ \t]*$")
	plainOther = regexp.MustCompile("[\\x00-\\x08\\x0a-\\x1f\\x7f]")
	plainSize  = regexp.MustCompile("^[0-9]{1,6}$")
)

// plain is what Read should say of s.
func plain(s string, head bool) told {
	at := strings.Index(s, "\r\n\r\n")
	if at < 0 && len(s) < 65536 {
		return told{e: api.ErrShort}
	}
	if at < 0 {
		return told{e: api.ErrForm}
	}
	r, size, close, ok := plainHead(strings.Split(s[:at], "\r\n"))
	if !ok {
		return told{e: api.ErrForm}
	}
	if head {
		size = 0
	}
	if at+4+size > len(s) {
		return told{e: api.ErrShort}
	}
	r.Body = s[at+4 : at+4+size]
	return told{r, close, at + 4 + size, api.OK}
}

// plainHead is the reply of a head's lines without its body, how long that is, and whether it closes.
func plainHead(l []string) (r api.Reply, size int, close, ok bool) {
	first := plainLine.FindStringSubmatch(l[0])
	if first == nil || slices.ContainsFunc(l, plainOther.MatchString) {
		return r, 0, false, false
	}
	r.Code, _ = strconv.Atoi(first[1])
	sizes, ends := []string{}, []string{}
	for _, s := range l[1:] {
		f := plainField.FindStringSubmatch(s)
		if f == nil {
			return r, 0, false, false
		}
		switch name := strings.ToLower(f[1]); {
		case name == "transfer-encoding":
			return r, 0, false, false
		case name == "content-length":
			sizes = append(sizes, f[2])
		case name == "connection" && r.Code != 101:
			ends = append(ends, f[2])
		default:
			r.Fields = append(r.Fields, api.Field{Name: f[1], Value: f[2]})
		}
	}
	if len(ends) > 1 || len(ends) == 1 && ends[0] != "close" || (len(sizes) == 0) != plainBare(r.Code) {
		return r, 0, false, false
	}
	if len(sizes) == 1 && plainSize.MatchString(sizes[0]) {
		size, _ = strconv.Atoi(sizes[0])
		return r, size, len(ends) == 1, true
	}
	return r, 0, len(ends) == 1, len(sizes) == 0
}

// P10.1, P10.2: the chapter's examples.
func TestExamples(t *testing.T) {
	written(t, reply(200, "hi", "A:b"), false, true, lines("HTTP/1.1 200 OK|A: b|Content-Length: 2|Connection: close||hi"))
	written(t, reply(101, "", "Upgrade:websocket", "Connection:Upgrade"), false, false, lines("HTTP/1.1 101 Switching Protocols|Upgrade: websocket|Connection: Upgrade||"))
	wrong(t, reply(101, "x"))
	wrong(t, reply(200, "", "Content-Length:5"))
	if s := Reason(299); s != "Status" {
		t.Error(s)
	}
}

// P10.1: the reasons of all codes, and of what is none.
func TestReason(t *testing.T) {
	for code := -1100; code < 1100; code++ {
		if got := Reason(code); got != plainReason(code) {
			t.Errorf("Reason(%d): %q", code, got)
		}
	}
	for _, code := range []int{-1 << 63, 1<<63 - 1, 1<<32 + 200, 200 - 1<<32} {
		if got := Reason(code); got != "Status" {
			t.Errorf("Reason(%d): %q", code, got)
		}
	}
}

// P10.1: all codes, with a body and without.
func TestCodes(t *testing.T) {
	for code := -700; code < 1200; code++ {
		if code < 100 || code > 599 {
			wrong(t, reply(code, ""))
			wrong(t, reply(code, "x"))
			continue
		}
		right(t, reply(code, "", "A:b"))
		if plainBare(code) {
			wrong(t, reply(code, "x"))
			wrong(t, reply(code, "\r\n"))
		} else {
			right(t, reply(code, "x"))
		}
	}
	for _, code := range []int{-1 << 63, 1<<63 - 1, 1<<32 + 200, 200 - 1<<32} {
		wrong(t, reply(code, ""))
	}
}

// P10.1: how long a body may be.
func TestBodies(t *testing.T) {
	for _, n := range []int{0, 1, 9, 10, 99, 100, 9999, 10000, api.MaxText - 1, api.MaxText} {
		right(t, reply(200, many(n)))
		right(t, reply(404, many(n), "A:b", "c:"))
	}
	wrong(t, reply(200, many(api.MaxText+1)))
	wrong(t, reply(500, many(1<<20)))
	for _, body := range []string{"\r\n\r\n", "\x00\xff", "HTTP/1.1 200 OK\r\n\r\n", bytesThat(func(int) bool { return true })} {
		right(t, reply(200, body))
	}
}

// P10.1: names that no reply has, and those that are alike to none of them.
func TestNames(t *testing.T) {
	for _, name := range []string{"Content-Length", "content-length", "CONTENT-LENGTH", "cONTENT-lENGTH", "Transfer-Encoding", "transfer-encoding", "TRANSFER-ENCODING", "Connection", "connection", "CONNECTION", "cOnNeCtIoN"} {
		for _, code := range []int{100, 101, 102, 199, 200, 204, 304, 404, 599} {
			for _, value := range []string{"", "0", "chunked", "close", "Upgrade"} {
				f := name + ":" + value
				for _, l := range [][]string{{f}, {"A:b", f}, {f, "A:b"}, {f, f}} {
					if code == 101 && strings.EqualFold(name, "connection") {
						right(t, reply(code, "", l...))
					} else {
						wrong(t, reply(code, "", l...))
					}
				}
			}
		}
	}
	for _, name := range []string{"Content-Lengt", "Content-Lengths", "ContentLength", "Content_Length", "X-Content-Length", "Transfer-Encodin", "Transfer_Encoding", "TE", "Connections", "Connectio", "Xonnection", "Close", "Upgrade", "Content-Type", "Keep-Alive", "Host"} {
		right(t, reply(200, "x", name+":close"))
		right(t, reply(101, "", name+":close"))
		right(t, reply(204, "", name+":5"))
	}
	wrong(t, reply(101, "", "Connection:Upgrade", "Content-Length:0"))
	wrong(t, reply(101, "", "Connection:Upgrade", "Transfer-Encoding:chunked"))
	right(t, reply(101, "", "Connection:Upgrade", "connection:close", "CONNECTION:"))
}

// P10.1: whatever byte stands wherever in a field's name and in its value.
func TestFieldBytes(t *testing.T) {
	for b := range 256 {
		for _, name := range []string{one(b), one(b) + "a", "a" + one(b), "a" + one(b) + "a"} {
			for _, r := range []api.Reply{{Code: 200, Body: "x", Fields: []api.Field{{Name: name, Value: "v"}}}, {Code: 101, Fields: []api.Field{{Name: "A", Value: "b"}, {Name: name}}}} {
				if has(tokens, b) {
					right(t, r)
				} else {
					wrong(t, r)
				}
			}
		}
		for _, value := range []string{one(b), one(b) + "a", "a" + one(b), "a" + one(b) + "a"} {
			r := api.Reply{Code: 200, Body: "x", Fields: []api.Field{{Name: "N", Value: value}, {Name: "M", Value: "n"}}}
			if has(values, b) && (b != 9 && b != 0x20 || len(value) == 3) {
				right(t, r)
			} else {
				wrong(t, r)
			}
		}
	}
}

// P10.1: a field that is none, wherever it stands.
func TestFieldsWrong(t *testing.T) {
	for _, f := range []api.Field{{}, {Value: "a"}, {Name: " a"}, {Name: "a "}, {Name: "a:"}, {Name: "a:b", Value: "c"}, {Name: ":"}, {Name: "a b"}, {Name: "\u00e9"}, {Name: "a\r\nb"},
		{Name: "a", Value: " "}, {Name: "a", Value: " b"}, {Name: "a", Value: "b "}, {Name: "a", Value: "\tb"}, {Name: "a", Value: "b\t"}, {Name: "a", Value: "b\r\n"}, {Name: "a", Value: "b\r\nc: d"}, {Name: "a", Value: "\x00"}, {Name: "a", Value: "\x7f"}} {
		a := api.Field{Name: "A", Value: "b"}
		for _, l := range [][]api.Field{{f}, {a, f}, {f, a}, {a, a, f, a}} {
			for _, code := range []int{100, 101, 200, 204, 304, 404} {
				wrong(t, api.Reply{Code: code, Fields: l})
			}
		}
	}
}

// P10.1: more fields than a request may have, and a head that is longer than a request's.
func TestFieldsMany(t *testing.T) {
	right(t, api.Reply{Code: 200, Body: "x", Fields: slices.Repeat(fields("A:b", "a:", "B:c: d, e"), 50)})
	right(t, api.Reply{Code: 304, Fields: slices.Repeat(fields("A:b"), 1000)})
	right(t, reply(200, "x", many(3000)+":"+many(3000)))
	right(t, api.Reply{Code: 200, Fields: []api.Field{}})
	right(t, reply(200, "x", tokens+":"+values[2:], "colons:::a:")) // the first two are blanks
}

// P10.1: what is written, of each kind.
func TestBytes(t *testing.T) {
	for _, c := range []struct {
		r           api.Reply
		head, close bool
		want        string
	}{
		{reply(200, ""), false, false, "HTTP/1.1 200 OK|Content-Length: 0||"},
		{reply(200, ""), true, false, "HTTP/1.1 200 OK|Content-Length: 0||"},
		{reply(200, "hello"), false, false, "HTTP/1.1 200 OK|Content-Length: 5||hello"},
		{reply(200, "hello"), true, false, "HTTP/1.1 200 OK|Content-Length: 5||"},
		{reply(200, "hello"), true, true, "HTTP/1.1 200 OK|Content-Length: 5|Connection: close||"},
		{reply(404, "no", "B:1", "a:", "B:2 3"), false, true, "HTTP/1.1 404 Not Found|B: 1|a: |B: 2 3|Content-Length: 2|Connection: close||no"},
		{reply(204, "", "A:b"), false, false, "HTTP/1.1 204 Status|A: b||"},
		{reply(204, ""), false, true, "HTTP/1.1 204 Status|Connection: close||"},
		{reply(304, ""), true, true, "HTTP/1.1 304 Status|Connection: close||"},
		{reply(100, ""), false, false, "HTTP/1.1 100 Status||"},
		{reply(100, ""), false, true, "HTTP/1.1 100 Status|Connection: close||"},
		{reply(101, ""), true, false, "HTTP/1.1 101 Switching Protocols||"},
		{reply(405, "", "Allow:GET, POST"), false, false, "HTTP/1.1 405 Method Not Allowed|Allow: GET, POST|Content-Length: 0||"},
		{reply(426, "", "Sec-WebSocket-Version:13"), false, true, "HTTP/1.1 426 Upgrade Required|Sec-WebSocket-Version: 13|Content-Length: 0|Connection: close||"},
		{reply(431, many(10)), false, true, "HTTP/1.1 431 Request Header Fields Too Large|Content-Length: 10|Connection: close||" + many(10)},
	} {
		written(t, c.r, c.head, c.close, lines(c.want))
	}
	writtenNot(t, reply(101, ""), false, true)
	writtenNot(t, reply(101, "", "Upgrade:websocket", "Connection:Upgrade"), true, true)
}

// P10.2: what is read that is not written so.
func TestRead(t *testing.T) {
	for _, c := range []struct {
		s     string
		r     api.Reply
		close bool
	}{
		{"HTTP/1.1 200 |Content-Length: 0||", reply(200, ""), false},
		{"HTTP/1.1 200  any : reason |content-length:2||hi", reply(200, "hi"), false},
		{"HTTP/1.1 404 \xff\t|CONTENT-LENGTH:\t000002 \t||hi", reply(404, "hi"), false},
		{"HTTP/1.1 200 x|A:b|Content-Length: 1|a:  c d \t|CONNECTION:close|A:|b::||\x00", reply(200, "\x00", "A:b", "a:c d", "A:", "b::"), true},
		{"HTTP/1.1 200 x|connection: \tclose\t |Content-Length: 0||", reply(200, ""), true},
		{"HTTP/1.1 204 No Content||", reply(204, ""), false},
		{"HTTP/1.1 204 |Connection:close||", reply(204, ""), true},
		{"HTTP/1.1 304 Not Modified|Connections: 5|X-Content-Length: 7|TE: a||", reply(304, "", "Connections:5", "X-Content-Length:7", "TE:a"), false},
		{"HTTP/1.1 100 Continue||", reply(100, ""), false},
		{"HTTP/1.1 199 x|Connection: close||", reply(199, ""), true},
		{"HTTP/1.1 101 x||", reply(101, ""), false},
		// of 101 a Connection is a field like any other
		{"HTTP/1.1 101 x|Connection: close||", reply(101, "", "Connection:close"), false},
		{"HTTP/1.1 101 x|Connection: a|B: c|connection:close|Connection: close||", reply(101, "", "Connection:a", "B:c", "connection:close", "Connection:close"), false},
		// longer than a reply that may be
		{"HTTP/1.1 200 x|Content-Length: 65537||" + many(65537), reply(200, many(65537)), false},
		{"HTTP/1.1 200 x|Content-Length: 999999||" + many(999999), reply(200, many(999999)), false},
		{"HTTP/1.1 200 x|A: " + many(70000) + "|Content-Length: 1||y", reply(200, "y", "A:"+many(70000)), false},
	} {
		s := lines(c.s)
		whole := told{c.r, c.close, len(s), api.OK}
		reads(t, s, false, whole)
		reads(t, s+"more", false, whole)
		end := strings.Index(s, "\r\n\r\n") + 4
		head := told{c.r, c.close, end, api.OK}
		head.r.Body = ""
		reads(t, s[:end], true, head)
		reads(t, s, true, head)
		if end < len(s) {
			short(t, s[:end], false)
			short(t, s[:len(s)-1], false)
		}
	}
}

// P10.2: no end of a head: it is too short, or, with MaxText bytes, none.
func TestReadEndless(t *testing.T) {
	for _, s := range []string{"", "H", "\r", "\r\n", "\r\n\r", "HTTP/1.1 200 OK\r\n", "no reply", "\n\n", "\r\r\n\n", "\r\n \r\n", "HTTP/1.1 200 OK\n\nContent-Length: 0\n\n", "\x00"} {
		short(t, s, false)
		short(t, s, true)
		long := s + strings.Repeat("z", api.MaxText-1-len(s))
		for _, head := range []bool{false, true} {
			short(t, long, head)
			reads(t, long+"z", head, told{e: api.ErrForm})
			reads(t, long+"zz", head, told{e: api.ErrForm})
			reads(t, long+strings.Repeat("z", api.MaxText), head, told{e: api.ErrForm})
		}
	}
	// an end is an end, however far
	begin := "HTTP/1.1 204 x\r\nA: "
	for n := api.MaxText - 10; n < api.MaxText+10; n++ {
		s := begin + strings.Repeat("z", n-len(begin))
		r := reply(204, "", "A:"+s[len(begin):])
		reads(t, s+"\r\n\r\n", false, told{r, false, n + 4, api.OK})
		reads(t, s+"\r\n\r", false, told{e: []api.Errno{api.ErrShort, api.ErrForm}[(n+3)/api.MaxText]})
	}
}

// P10.2: lines that are none of a head.
func TestReadLines(t *testing.T) {
	const ok = "HTTP/1.1 200 OK|Content-Length: 0"
	for _, s := range []string{
		"", "|", "|" + ok, " " + ok, "HTTP/1.0 200 OK|Content-Length: 0", "HTTP/2 200 OK|Content-Length: 0", "http/1.1 200 OK|Content-Length: 0", "HTTP/1.1 200|Content-Length: 0", "HTTP/1.1  200 OK|Content-Length: 0",
		"HTTP/1.1 600 x|Content-Length: 0", "HTTP/1.1 099 x", "HTTP/1.1 099 x|Content-Length: 0", "HTTP/1.1 99 x", "HTTP/1.1 2000 x|Content-Length: 0", "HTTP/1.1 +20 x|Content-Length: 0", "GET / HTTP/1.1|Host: x|Content-Length: 0", "Content-Length: 0", "Content-Length: 0|HTTP/1.1 200 OK",
		"HTTP/1.1 200 O\rK|Content-Length: 0", "HTTP/1.1 200 O\nK|Content-Length: 0", "HTTP/1.1 200 OK\n|Content-Length: 0", "HTTP/1.1 200 \x00|Content-Length: 0",
		ok + "|a", ok + "|:", ok + "|: b", ok + "| a: b", ok + "|\ta: b", ok + "|a : b", ok + "|a b: c", ok + "|a: b|c", ok + "|a|b: c", ok + "|HTTP/1.1 200 OK", ok + "|\xff: a",
		ok + "|a: b\rc: d", ok + "|a: b\nc: d", ok + "|a: b\n", ok + "|a: b\r", ok + "|a: \x00", ok + "|a: \x7f", ok + "\n", ok + "\r",
		"HTTP/1.1 204 x|a", "HTTP/1.1 101 x|a", "HTTP/1.1 204 x\n", "HTTP/1.1 101 x|a: b|: c", ok + ",", ok + "|,",
	} {
		bad(t, lines(s)+"\r\n\r\n")
	}
}

// P10.2: what may not be said of the body and of the end.
func TestReadFields(t *testing.T) {
	for _, s := range []string{"", ",", "+1", "-1", "-0", " 1 2", "1,1", "1, 1", "1 1", "0x1", "1.0", "1e2", "a", "1a", "a1", "\u0661", "\xb2", "0000001", "1000000", "9999999", "4294967296", strings.Repeat("0", 50), strings.Repeat("9", 50), "1_0", "\"1\"", "1;"} {
		bad(t, lines("HTTP/1.1 200 x|Content-Length: "+s+"||")+many(2000))
		bad(t, lines("HTTP/1.1 200 x|Content-Length: "+s+"|content-length: 1||x"))
		bad(t, lines("HTTP/1.1 204 x|Content-Length: "+s+"||"))
	}
	for _, name := range []string{"Content-Length", "content-length", "CONTENT-LENGTH", "cOntent-lEngth"} {
		bad(t, lines("HTTP/1.1 200 x|"+name+": 1|Content-Length: 1||x"))
		bad(t, lines("HTTP/1.1 200 x|Content-Length: 0|"+name+": 0||"))
		bad(t, lines("HTTP/1.1 200 x|Content-Length: 1|a: b|"+name+": 2||xx"))
		for _, code := range []string{"100", "101", "102", "199", "204", "304"} {
			bad(t, lines("HTTP/1.1 "+code+" x|"+name+": 0||"))
			bad(t, lines("HTTP/1.1 "+code+" x|Connection: close|"+name+": 1||x"))
		}
	}
	for code := 100; code < 600; code++ {
		s := "HTTP/1.1 " + strconv.Itoa(code) + " x|"
		none, some := read(lines(s+"|"), false), read(lines(s+"Content-Length: 0||"), false)
		if (none.e == api.OK) != plainBare(code) || (some.e == api.OK) == plainBare(code) {
			t.Error(code, none, some)
		}
	}
	for _, s := range []string{"Transfer-Encoding: chunked", "transfer-encoding: identity", "TRANSFER-ENCODING:"} {
		bad(t, lines("HTTP/1.1 200 x|"+s+"||"))
		bad(t, lines("HTTP/1.1 200 x|Content-Length: 0|"+s+"||"))
		bad(t, lines("HTTP/1.1 200 x|"+s+"|Content-Length: 0||"))
		bad(t, lines("HTTP/1.1 204 x|"+s+"||"))
		bad(t, lines("HTTP/1.1 101 x|"+s+"||"))
	}
	for _, value := range []string{"", "Close", "CLOSE", "closed", "clos", "close, close", "close,", ",close", "a, close", "keep-alive", "Upgrade", "close;", "\"close\""} {
		for _, code := range []string{"200 x|Content-Length: 0", "204 x", "100 x", "304 x"} {
			for _, name := range []string{"Connection", "connection", "CONNECTION"} {
				bad(t, lines("HTTP/1.1 "+code+"|"+name+": "+value+"||"))
				bad(t, lines("HTTP/1.1 "+code+"|Connection: close|"+name+": "+value+"||"))
				bad(t, lines("HTTP/1.1 "+code+"|"+name+": "+value+"|Connection: close||"))
				bad(t, lines("HTTP/1.1 "+code+"|"+name+": close|Connection: close||"))
			}
		}
	}
}

// P10.2: a head that may not be is told ahead of a body that is too short; of the head alone no body is too short.
func TestReadOrder(t *testing.T) {
	for _, s := range []string{"|Transfer-Encoding: chunked", "|Connection: x", "|Content-Length: 5", "|a"} {
		bad(t, lines("HTTP/1.1 200 x|Content-Length: 5"+s+"||hi"))
	}
	const s = "HTTP/1.1 200 x|Content-Length: 999999||"
	short(t, lines(s), false)
	short(t, lines(s)+many(999998), false)
	reads(t, lines(s), true, told{reply(200, ""), false, len(lines(s)), api.OK})
	bad(t, lines("HTTP/1.1 200 x|Content-Length: 1000000||")+many(1000000))
}

// P10.2: each byte, at each place of a short reply: put in, put in the place of another, and left out.
func TestAllBytes(t *testing.T) {
	for _, s := range []string{"HTTP/1.1 200 x|Content-Length: 1|Connection: close||b", "HTTP/1.1 204 |a:||", "HTTP/1.1 101 x|Connection:close|b: c||", "HTTP/1.1 404 x|content-length:02|a: b c ||hi"} {
		s = lines(s)
		for i := range len(s) {
			for b := range 256 {
				for _, head := range []bool{false, true} {
					put, changed := s[:i]+one(b)+s[i:], s[:i]+one(b)+s[i+1:]
					reads(t, put, head, plain(put, head))
					reads(t, changed, head, plain(changed, head))
				}
			}
			reads(t, s[:i]+s[i+1:], false, plain(s[:i]+s[i+1:], false))
			reads(t, s[:i], false, plain(s[:i], false))
		}
	}
}

// text is from least to most of these bytes, drawn.
func text(chance *rand.Rand, of string, least, most int) string {
	s := make([]byte, least+chance.Intn(most-least+1))
	for i := range s {
		s[i] = of[chance.Intn(len(of))]
	}
	return string(s)
}

// anyReply is a reply that may be.
func anyReply(chance *rand.Rand) api.Reply {
	r := api.Reply{Code: []int{100, 101, 200, 204, 304, 404, 100 + chance.Intn(500)}[chance.Intn(7)]}
	for range chance.Intn(6) {
		f := api.Field{Name: text(chance, tokens, 1, 6), Value: strings.Trim(text(chance, values, 0, 9), "\t ")}
		if r.Code == 101 && chance.Intn(3) == 0 {
			f.Name = "Connection"
		}
		r.Fields = append(r.Fields, f)
	}
	if !plainBare(r.Code) {
		r.Body = text(chance, "\r\n:x\x00\xff", 0, 20)
	}
	return r
}

// P10.3: what has bytes is read with all of them, whatever stands behind; each beginning of these is too short.
func TestBack(t *testing.T) {
	chance := rand.New(rand.NewSource(10))
	for range 2000 {
		r := anyReply(chance)
		right(t, r)
		s, e := Bytes(r, false, false)
		if e != api.OK {
			t.Fatal(show(r))
		}
		for i := range len(s) {
			short(t, s[:i], false)
		}
	}
}

// P10.3: replies one behind the other are read one by one.
func TestRow(t *testing.T) {
	chance := rand.New(rand.NewSource(11))
	for range 500 {
		var all string
		var want []told
		for range 1 + chance.Intn(6) {
			r, head, close := anyReply(chance), chance.Intn(2) == 0, chance.Intn(2) == 0
			s, e := Bytes(r, head, close && r.Code != 101)
			if head {
				r.Body = ""
			}
			want = append(want, told{r, close && r.Code != 101, len(s), e})
			all += s
		}
		for _, w := range want {
			// where no body stands, it may have been the head alone that was asked for
			reads(t, all, w.r.Body == "", w)
			all = all[w.n:]
		}
		if all != "" {
			t.Error("left:", brief(all))
		}
	}
}

// P10.3: of a long head that has fewer than MaxText bytes, its end too, every beginning is too short.
func TestLongHeads(t *testing.T) {
	begin := "HTTP/1.1 204 Status\r\nA: "
	r := reply(204, "", "A:"+many(api.MaxText-1-4-len(begin)))
	s, e := Bytes(r, false, false)
	if e != api.OK || len(s) != api.MaxText-1 {
		t.Fatal(e, len(s))
	}
	for i := 0; i < len(s); i += 1 + (len(s)-i)/50 {
		short(t, s[:i], false)
	}
	reads(t, s, false, told{r, false, len(s), api.OK})
}

// P10.2: replies that are spoilt by random, against the plain reader.
func TestSpoilt(t *testing.T) {
	chance := rand.New(rand.NewSource(12))
	odd := []string{"\r", "\n", "\r\n", "\r\n\r\n", ":", " ", ",", "0", "1", "9", "Content-Length: 3\r\n", "content-length: 0\r\n", "Transfer-Encoding: chunked\r\n", "Connection: close\r\n", "connection: Close\r\n", "x", "\x00", "\xff", "a: b\r\n", "HTTP/1.1 204 x\r\n"}
	seen := map[api.Errno]int{}
	for range 40000 {
		r := anyReply(chance)
		s, _ := Bytes(r, chance.Intn(3) == 0, r.Code != 101 && chance.Intn(2) == 0)
		for range chance.Intn(3) {
			at := chance.Intn(len(s) + 1)
			if chance.Intn(2) == 0 { // ahead of a line, as a line of its own
				at += max(0, strings.Index(s[at:], "\n")+1)
			}
			end := at
			if chance.Intn(2) == 0 {
				end = min(at+1+chance.Intn(3), len(s))
			}
			s = s[:at] + odd[chance.Intn(len(odd))] + s[end:]
		}
		head := chance.Intn(2) == 0
		want := plain(s, head)
		seen[want.e]++
		reads(t, s, head, want)
	}
	for _, e := range []api.Errno{api.OK, api.ErrShort, api.ErrForm} {
		if seen[e] < 1000 {
			t.Error("too few of", e, seen)
		}
	}
}

// R3, R4: what is handed in is neither changed nor kept, and answers share no memory.
func TestApart(t *testing.T) {
	l := append(make([]api.Field, 0, 8), fields("A:b", "C:d")...)
	spare := l[:8]
	r := api.Reply{Code: 200, Fields: l, Body: "hi"}
	s, _ := Bytes(r, false, true)
	if !Right(r) || !slices.Equal(spare, append(fields("A:b", "C:d"), make([]api.Field, 6)...)) {
		t.Error("the fields were changed", spare)
	}
	first := read(s, false)
	first.r.Fields[0] = api.Field{Name: "gone"}
	_ = append(first.r.Fields, api.Field{Name: "more"})
	reads(t, s, false, told{r, true, len(s), api.OK})
	if again, _ := Bytes(r, false, true); again != s {
		t.Error("other bytes", brief(again))
	}
}

// R1: long texts come to an end soon.
func TestLong(t *testing.T) {
	const n = 1 << 20
	begin, some := "HTTP/1.1 204 x\r\n", strings.Repeat("a:\r\n", n)
	for _, s := range []string{strings.Repeat("\r", n), strings.Repeat("\r\n\n", n), some, some + "\r\n", begin + some, begin + some + "b\r\n\r\n"} {
		reads(t, s, false, told{e: api.ErrForm})
	}
	s := begin + some + "\r\n"
	if got := read(s, false); got.e != api.OK || got.n != len(s) || len(got.r.Fields) != n {
		t.Error(got.e, got.n)
	}
	r := api.Reply{Code: 204, Fields: slices.Repeat(fields("a:"), n)}
	if s, e := Bytes(r, false, false); e != api.OK || len(s) != len("HTTP/1.1 204 Status||||")+len("a: ||")*n {
		t.Error(e, len(s))
	}
}
