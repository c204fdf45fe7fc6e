package chain

import (
	"math"
	"math/rand"
	"slices"
	"strconv"
	"strings"
	"testing"

	"crier/api"
)

// owns are the names that no step may add.
var owns = []string{"Allow", "Connection", "Content-Length", "Sec-WebSocket-Accept", "Sec-WebSocket-Version", "Transfer-Encoding", "Upgrade"}

// The bytes that may stand in a token, and in a value.
var (
	tokens = bytesThat(func(b int) bool {
		return b >= '0' && b <= '9' || b >= 'A' && b <= 'Z' || b >= 'a' && b <= 'z' || has("!#$%&'*+-.^_`|~", b)
	})
	values = bytesThat(func(b int) bool { return b == 9 || b >= 0x20 && b <= 0x7e || b >= 0x80 })
)

// bytesThat are all bytes of which is says so.
func bytesThat(is func(int) bool) string {
	var l []byte
	for b := range 256 {
		if is(b) {
			l = append(l, byte(b))
		}
	}
	return string(l)
}

// has says whether the byte b stands in s.
func has(s string, b int) bool { return strings.IndexByte(s, byte(b)) >= 0 }

// one is the text of the byte b.
func one(b int) string { return string([]byte{byte(b)}) }

// The steps of each kind.
func adding(name, value string) Step  { return Step{Kind: SAdd, Name: name, Value: value} }
func needing(name, value string) Step { return Step{Kind: SNeed, Name: name, Value: value} }
func limiting(n int) Step             { return Step{Kind: SLimit, N: n} }
func taking(value string) Step        { return Step{Kind: STake, Value: value} }
func asking(name, value string) Step  { return Step{Kind: SWho, Name: name, Value: value} }

// fields are those of these names and values by turns.
func fields(l ...string) []api.Field {
	var x []api.Field
	for i := 0; i < len(l); i += 2 {
		x = append(x, api.Field{Name: l[i], Value: l[i+1]})
	}
	return x
}

// path answers 200 with the request's path.
func path(r api.Request) api.Reply { return api.Reply{Code: 200, Body: r.Path} }

// never is a handler to which nothing is to come.
func never(t *testing.T) Handler {
	return func(r api.Request) api.Reply {
		t.Helper()
		t.Errorf("%.80v came to the handler", r)
		return api.Reply{}
	}
}

// wrapped is h with these steps around it.
func wrapped(t *testing.T, h Handler, l ...Step) Handler {
	t.Helper()
	w, err := Wrap(l, h)
	if w == nil || err != api.OK {
		t.Fatalf("Wrap(%.200v): %v, %d", l, w != nil, err)
	}
	return w
}

// alike says whether two replies are the same; a list without elements is as none.
func alike(a, b api.Reply) bool {
	return a.Code == b.Code && a.Body == b.Body && slices.Equal(a.Fields, b.Fields)
}

// sameRequest says whether two requests are.
func sameRequest(a, b api.Request) bool {
	return a.Method == b.Method && a.Path == b.Path && a.Query == b.Query && a.Version == b.Version &&
		slices.Equal(a.Fields, b.Fields) && a.Body == b.Body && a.Close == b.Close
}

// answers says whether h answers r by this code, this body, and fields of these names and values by turns.
func answers(t *testing.T, h Handler, r api.Request, code int, body string, l ...string) {
	t.Helper()
	want := api.Reply{Code: code, Body: body, Fields: fields(l...)}
	if got := h(r); !alike(got, want) {
		t.Errorf("of %.200v: %.200v, want %.200v", r, got, want)
	}
}

// P13.1, P13.3: the chapter's examples.
func TestExample(t *testing.T) {
	h := wrapped(t, path, adding("A", "1"), adding("B", "2"))
	answers(t, h, api.Request{Path: "/x"}, 200, "/x", "B", "2", "A", "1")
	h = wrapped(t, path, needing("K", "v"), adding("A", "1"))
	answers(t, h, api.Request{Path: "/x", Fields: fields("k", "v")}, 200, "/x", "A", "1")
	answers(t, h, api.Request{Path: "/x", Fields: fields("K", "w")}, 403, "forbidden")
	answers(t, h, api.Request{Path: "/x"}, 403, "forbidden")
	h = wrapped(t, path, adding("A", "1"), taking("/api"))
	answers(t, h, api.Request{Path: "/api/x"}, 200, "/x", "A", "1")
	answers(t, h, api.Request{Path: "/api"}, 200, "/", "A", "1")
	answers(t, h, api.Request{Path: "/apix"}, 404, "not found", "A", "1")
}

// right says whether a step may be, alone and behind others.
func right(t *testing.T, s Step) {
	t.Helper()
	if !Right(s) {
		t.Errorf("Right(%.80v): false", s)
	}
	for _, l := range [][]Step{{s}, {limiting(0), s}, {s, limiting(0)}} {
		if w, err := Wrap(l, path); w == nil || err != api.OK {
			t.Errorf("Wrap(%.200v): %v, %d", l, w != nil, err)
		}
	}
}

// wrong says whether a step may not be, wherever it stands.
func wrong(t *testing.T, s Step) {
	t.Helper()
	if Right(s) {
		t.Errorf("Right(%.80v): true", s)
	}
	for i := range api.MaxSteps {
		l := make([]Step, api.MaxSteps)
		for j := range l {
			l[j] = limiting(j)
		}
		l[i] = s
		for _, l := range [][]Step{l, l[:i+1], l[i:]} {
			if w, err := Wrap(l, path); w != nil || err != api.ErrArg {
				t.Errorf("Wrap(%.200v): %v, %d", l, w != nil, err)
			}
		}
	}
}

// P13.1: steps of each kind that are right, and that are not.
func TestRight(t *testing.T) {
	long := strings.Repeat("n", 100000)
	for _, s := range []Step{
		adding("A", "1"), adding("a", ""), adding("X-Y", "a b\tc, d: e"), adding(long, long), adding("Host", "x"), adding("Allows", "x"),
		adding("Sec-WebSocket-Key", "x"), adding("Content-Type", "x"), adding("A", ":"), adding("A", ":b"), adding("A", "\xff\x80"),
		needing("A", "1"), needing("a", ""), needing(long, long), needing("A", " 1 "), needing("A", "\x00\r\n\x7f"), needing("Host", "x"),
		limiting(0), limiting(1), limiting(math.MaxInt),
		taking("/a"), taking("/a/b"), taking("//a"), taking("/ "), taking("/?"), taking("/%"), taking("/\x00"), taking("/" + long), taking("/.."), taking("/a//b"),
		asking("A", "B"), asking("A", "A"), asking(long, long), asking("Host", "x"),
	} {
		right(t, s)
	}
	for _, s := range []Step{
		{}, {N: 1}, {Name: "A", Value: "1"},
		adding("", ""), adding("", "1"), adding("A B", "1"), adding("A:", "1"), adding("A:b", "c"), adding(" A", "1"), adding("A ", "1"), adding("A", " 1"), adding("A", "1 "), adding("A", "\t1"), adding("A", "1\t"), adding("A", " "),
		adding("A", "1\r\nB: 2"), adding("A", "\x7f"), adding("\xc3\xa9", "1"), adding("A\r\nB", "1"),
		needing("", ""), needing("", "1"), needing("A B", "1"), needing("A:", "1"), needing(" A", "1"), needing("A ", "1"), needing("\xc3\xa9", ""),
		limiting(-1), limiting(math.MinInt), {Kind: SLimit, Name: "A"}, {Kind: SLimit, Value: "/a"}, {Kind: SLimit, Name: "A", Value: "1", N: 5},
		taking(""), taking("/"), taking("//"), taking("/a/"), taking("a"), taking("a/b"), taking(" /a"), taking("/a//"), taking("\\a"), taking("a/"),
		{Kind: STake, Name: "A", Value: "/a"}, {Kind: STake, Name: "/a"}, {Kind: STake, Value: "/a", N: 1}, {Kind: STake, Value: "/a", N: -1},
		asking("", ""), asking("A", ""), asking("", "A"), asking("A B", "C"), asking("A", "B C"), asking("A:", "B"), asking("A", "B:"), asking(" A", "B"), asking("A", "B "),
		{Kind: SAdd, Name: "A", Value: "1", N: 1}, {Kind: SAdd, Name: "A", Value: "1", N: -1},
		{Kind: SNeed, Name: "A", Value: "1", N: 1}, {Kind: SNeed, Name: "A", N: -1},
		{Kind: SWho, Name: "A", Value: "B", N: 1}, {Kind: SWho, Name: "A", Value: "B", N: -1},
	} {
		wrong(t, s)
	}
}

// P13.1: no other kinds there are.
func TestKinds(t *testing.T) {
	if SAdd != 1 || SNeed != 2 || SLimit != 3 || STake != 4 || SWho != 5 {
		t.Error("the kinds:", SAdd, SNeed, SLimit, STake, SWho)
	}
	for _, kind := range []int{0, -1, 6, 7, -5, 257, 258, 259, 260, 261, 1<<32 + 1, math.MinInt, math.MaxInt} {
		for _, s := range []Step{{}, adding("A", "1"), limiting(1), taking("/a"), asking("A", "B")} {
			s.Kind = kind
			wrong(t, s)
		}
	}
}

// P13.1: what a reply's bytes, the router and the handshake have of their own is no step's to add, whatever its letters.
func TestOwn(t *testing.T) {
	for _, name := range owns {
		spelt := []string{name, strings.ToLower(name), strings.ToUpper(name)}
		for i := range len(name) {
			spelt = append(spelt, name[:i]+string([]byte{name[i] ^ 0x20})+name[i+1:])
		}
		for _, s := range spelt {
			if !strings.EqualFold(s, name) { // a - has no other letter
				continue
			}
			wrong(t, adding(s, "x"))
			wrong(t, adding(s, ""))
			wrong(t, asking("A", s))
			right(t, needing(s, "x"))
			right(t, asking(s, "A"))
			right(t, adding("A", s)) // a value is no name
		}
		for _, s := range []string{name + "s", "X" + name, name[1:], name[:len(name)-1]} {
			right(t, adding(s, "x"))
			right(t, asking("A", s))
		}
	}
	right(t, adding("Sec_WebSocket_Accept", "x"))
	right(t, adding("ContentLength", "x"))
}

// P13.1: whatever byte stands wherever in a name, a value, a prefix.
func TestRightBytes(t *testing.T) {
	check := func(s Step, want bool) {
		t.Helper()
		if got := Right(s); got != want {
			t.Errorf("Right(%+v): %v", s, got)
		}
		if _, err := Wrap([]Step{s}, path); (err == api.OK) != want {
			t.Errorf("Wrap(%+v): %d", s, err)
		}
	}
	for b := range 256 {
		c := one(b)
		inToken, inValue, blank := has(tokens, b), has(values, b), b == 9 || b == 0x20
		for _, name := range []string{c, c + "n", "n" + c, "n" + c + "n"} {
			check(adding(name, "v"), inToken)
			check(needing(name, "v"), inToken)
			check(asking(name, "V"), inToken)
			check(asking("N", name), inToken)
		}
		check(adding("n", c), inValue && !blank)
		check(adding("n", c+"v"), inValue && !blank)
		check(adding("n", "v"+c), inValue && !blank)
		check(adding("n", "v"+c+"v"), inValue)
		for _, value := range []string{c, c + "v", "v" + c, "v" + c + "v"} {
			check(needing("n", value), true)
		}
		check(taking(c+"a"), c == "/")
		check(taking("/"+c), c != "/")
		check(taking("/a"+c), c != "/")
		check(taking("/"+c+"a"), true)
		check(taking("/a"+c+"b"), true)
	}
}

// P13.1: of several errors the first one that the promise names.
func TestWrapErrors(t *testing.T) {
	many := func(n int, s Step) []Step {
		l := make([]Step, n)
		for i := range l {
			l[i] = s
		}
		return l
	}
	for _, c := range []struct {
		l    []Step
		h    Handler
		want api.Errno
	}{
		{nil, nil, api.ErrNil}, {many(9, Step{}), nil, api.ErrNil}, {many(1, Step{}), nil, api.ErrNil}, {many(1, limiting(1)), nil, api.ErrNil},
		{many(9, limiting(1)), path, api.ErrFull}, {many(9, Step{}), path, api.ErrFull}, {many(100000, limiting(1)), path, api.ErrFull},
		{many(8, Step{}), path, api.ErrArg}, {many(1, Step{}), path, api.ErrArg}, {append(many(7, limiting(1)), Step{}), path, api.ErrArg},
		{nil, path, api.OK}, {[]Step{}, path, api.OK}, {many(1, limiting(1)), path, api.OK}, {many(8, limiting(1)), path, api.OK},
	} {
		if w, err := Wrap(c.l, c.h); err != c.want || (w != nil) != (err == api.OK) {
			t.Errorf("Wrap of %d: %v, %d, want %d", len(c.l), w != nil, err, c.want)
		}
	}
}

// P13.3: what comes to the handler is the whole request, and what it answers is the whole reply, with no steps around it or with some that turn nothing.
func TestWhole(t *testing.T) {
	r := api.Request{Method: "POST", Path: "/a", Query: "b=c", Version: 10, Fields: fields("K", "v", "L", "w", "k", "x"), Body: "hello", Close: true}
	x := api.Reply{Code: 418, Fields: fields("X", "1", "Upgrade", "y", "X", " z "), Body: "reply"}
	for _, l := range [][]Step{
		nil, {}, {limiting(5)}, {needing("K", "v")}, {needing("l", "")}, {limiting(5), needing("L", "w"), limiting(6), needing("k", "")},
	} {
		came := 0
		w := wrapped(t, func(got api.Request) api.Reply {
			came++
			if !sameRequest(got, r) {
				t.Errorf("%v: %v came to the handler", l, got)
			}
			return x
		}, l...)
		for i := range 3 {
			if got := w(r); !alike(got, x) || came != i+1 {
				t.Errorf("%v: %v, %d", l, got, came)
			}
		}
	}
	// a reply of no meaning is a reply
	for _, x := range []api.Reply{{}, {Code: -1}, {Code: math.MaxInt, Body: "\x00", Fields: fields("", "", "\r\n", "\xff")}} {
		got := wrapped(t, func(api.Request) api.Reply { return x })(api.Request{})
		if !alike(got, x) {
			t.Errorf("%v: %v", x, got)
		}
		x.Fields = append(slices.Clone(x.Fields), api.Field{Name: "A", Value: "1"})
		got = wrapped(t, func(api.Request) api.Reply {
			return api.Reply{Code: x.Code, Body: x.Body, Fields: x.Fields[:len(x.Fields)-1]}
		}, adding("A", "1"))(api.Request{})
		if !alike(got, x) {
			t.Errorf("%v: %v", x, got)
		}
	}
}

// SAdd: the field stands behind all others, as it is, whatever the reply is.
func TestAdd(t *testing.T) {
	for _, code := range []int{0, 101, 200, 204, 304, 404, 599} {
		h := func(api.Request) api.Reply {
			return api.Reply{Code: code, Body: "b", Fields: fields("A", "0", "Z", "9")}
		}
		answers(t, wrapped(t, h, adding("a", "1")), api.Request{}, code, "b", "A", "0", "Z", "9", "a", "1")
		answers(t, wrapped(t, h, adding("X", "")), api.Request{}, code, "b", "A", "0", "Z", "9", "X", "")
	}
	h := wrapped(t, path, adding("A", "1"), adding("A", "1"), adding("a", "2"))
	answers(t, h, api.Request{Path: "/p"}, 200, "/p", "a", "2", "A", "1", "A", "1")
	// what is added to the reply is not the request's
	h = wrapped(t, path, adding("A", "1"), needing("A", ""), adding("A", "2"))
	answers(t, h, api.Request{Path: "/p"}, 403, "forbidden", "A", "1")
}

// SNeed: which requests have the field.
func TestNeed(t *testing.T) {
	for _, c := range []struct {
		name, value string
		l           []api.Field
		ok          bool
	}{
		{"K", "v", fields("K", "v"), true}, {"K", "v", fields("k", "v"), true}, {"k", "v", fields("K", "v"), true},
		{"Key-Of", "v", fields("kEY-oF", "v"), true}, {"K", "v", fields("J", "w", "K", "v"), true},
		{"K", "v", fields("K", "v", "K", "w"), true}, {"K", "v", fields("K", "v", "k", ""), true},
		{"K", "v", fields("K", "w", "K", "v"), false}, {"K", "v", fields("k", "", "K", "v"), false},
		{"K", "v", nil, false}, {"K", "v", fields("J", "v"), false}, {"K", "v", fields("KK", "v"), false}, {"KK", "v", fields("K", "v"), false},
		{"K", "v", fields("K", "V"), false}, {"K", "v", fields("K", "v "), false}, {"K", "v", fields("K", "v,w"), false}, {"K", "v", fields("K", "vv"), false}, {"K", "vv", fields("K", "v"), false}, {"K", "v", fields("K", ""), false},
		{"K", "", fields("K", "v"), true}, {"K", "", fields("k", ""), true}, {"K", "", fields("K", "v", "K", "w"), true},
		{"K", "", nil, false}, {"K", "", fields("J", ""), false}, {"K", "", fields("", ""), false},
		{"K", " v ", fields("K", " v "), true}, {"K", " v ", fields("K", "v"), false}, {"K", "\r\n", fields("K", "\r\n"), true},
		{"Connection", "close", fields("connection", "close"), true}, {"`", "v", fields("@", "v"), false}, {"^", "", fields("~", "v"), false},
	} {
		s := needing(c.name, c.value)
		if c.ok {
			answers(t, wrapped(t, path, s), api.Request{Path: "/p", Fields: c.l}, 200, "/p")
		} else {
			answers(t, wrapped(t, never(t), s), api.Request{Path: "/p", Fields: c.l}, 403, "forbidden")
		}
	}
}

// SLimit: which bodies are too long.
func TestLimit(t *testing.T) {
	for _, n := range []int{0, 1, 2, 100, 4096, math.MaxInt} {
		for _, size := range []int{0, 1, 2, 3, 99, 100, 101, 4095, 4096, 4097, 100000} {
			r := api.Request{Path: "/p", Body: strings.Repeat("\xff", size), Query: strings.Repeat("q", 5000)}
			if size <= n {
				answers(t, wrapped(t, path, limiting(n)), r, 200, "/p")
			} else {
				answers(t, wrapped(t, never(t), limiting(n)), r, 413, "too long")
			}
		}
	}
}

// STake: which paths begin so, and what is left of them.
func TestTake(t *testing.T) {
	for _, c := range []struct{ value, path, left string }{
		{"/api", "/api", "/"}, {"/api", "/api/", "/"}, {"/api", "/api/x", "/x"}, {"/api", "/api//x", "//x"}, {"/api", "/api/api", "/api"},
		{"/api", "/api/x/y/", "/x/y/"}, {"/a/b", "/a/b", "/"}, {"/a/b", "/a/b/c", "/c"}, {"//a", "//a/b", "/b"}, {"/%2f", "/%2f/x", "/x"},
		{"/a b", "/a b/\x00", "/\x00"}, {"/a/a", "/a/a/a/a", "/a/a"},
		{"/api", "/apix", ""}, {"/api", "/ap", ""}, {"/api", "/", ""}, {"/api", "", ""}, {"/api", "api", ""}, {"/api", "/API", ""}, {"/api", "/Api/x", ""},
		{"/api", "/x/api", ""}, {"/api", "//api", ""}, {"/api", "/api?x", ""}, {"/api", "/api.", ""}, {"/api", "/%61pi", ""}, {"/api", "/api%2f", ""},
		{"/a/b", "/a", ""}, {"/a/b", "/a/", ""}, {"/a/b", "/a/bc", ""}, {"/a/b", "/a//b", ""}, {"/%2f", "/%2F", ""}, {"/a", "/a\\b", ""}, {"/a", "/a\x00/", ""},
	} {
		r := api.Request{Path: c.path, Query: c.value}
		if c.left != "" {
			answers(t, wrapped(t, path, taking(c.value)), r, 200, c.left)
		} else {
			answers(t, wrapped(t, never(t), taking(c.value)), r, 404, "not found")
		}
	}
	for b := range 256 {
		r := api.Request{Path: "/a" + one(b) + "x"}
		if one(b) == "/" {
			answers(t, wrapped(t, path, taking("/a")), r, 200, "/x")
		} else {
			answers(t, wrapped(t, never(t), taking("/a")), r, 404, "not found")
		}
	}
	// each takes from what the one around it left
	h := wrapped(t, path, taking("/a"), taking("/b/c"), taking("/a"))
	answers(t, h, api.Request{Path: "/a/b/c/a"}, 200, "/")
	answers(t, h, api.Request{Path: "/a/b/c/a/b"}, 200, "/b")
	answers(t, h, api.Request{Path: "/b/c/a/a"}, 404, "not found")
	answers(t, h, api.Request{Path: "/a/b/c"}, 404, "not found")
	answers(t, h, api.Request{Path: "/a"}, 404, "not found")
}

// SWho: what is told of the request.
func TestWho(t *testing.T) {
	for _, c := range []struct {
		name  string
		l     []api.Field
		value string
	}{
		{"From", fields("From", "me"), "me"}, {"From", fields("fROM", "me"), "me"}, {"from", fields("J", "x", "FROM", "me", "From", "you"), "me"},
		{"From", nil, "-"}, {"From", fields("Fro", "me", "Froms", "me", "", "me"), "-"}, {"From", fields("From", ""), ""}, {"From", fields("From", "", "From", "me"), ""},
		{"From", fields("From", " a, b "), " a, b "}, {"From", fields("From", "-"), "-"}, {"Who", fields("From", "me"), "-"}, {"Connection", fields("connection", "close"), "close"},
	} {
		h := wrapped(t, func(api.Request) api.Reply { return api.Reply{Code: 201, Body: "b", Fields: fields("who", "0")} }, asking(c.name, "Who"))
		answers(t, h, api.Request{Fields: c.l}, 201, "b", "who", "0", "Who", c.value)
		h = wrapped(t, never(t), asking(c.name, "Who"), needing("Never", ""))
		answers(t, h, api.Request{Fields: c.l}, 403, "forbidden", "Who", c.value)
	}
	// what the request says is told, not what the reply does
	h := wrapped(t, path, asking("A", "B"), adding("A", "1"), asking("B", "A"))
	answers(t, h, api.Request{Path: "/p"}, 200, "/p", "A", "-", "A", "1", "B", "-")
}

// P13.1: what is refused meets the first step that refuses it, and only the steps around that one add.
func TestRefused(t *testing.T) {
	l := []Step{adding("A", "1"), needing("K", "v"), asking("K", "B"), limiting(2), adding("C", "3"), taking("/t"), asking("J", "D")}
	good := api.Request{Path: "/t/p", Fields: fields("K", "v"), Body: "ab"}
	bare, long, away := good, good, good
	bare.Fields = nil
	long.Body = "abc"
	away.Path = "/q"
	answers(t, wrapped(t, path, l...), good, 200, "/p", "D", "-", "C", "3", "B", "v", "A", "1")
	h := wrapped(t, never(t), l...)
	answers(t, h, bare, 403, "forbidden", "A", "1")
	answers(t, h, long, 413, "too long", "B", "v", "A", "1")
	answers(t, h, away, 404, "not found", "C", "3", "B", "v", "A", "1")
	long.Path, bare.Body, bare.Path = "/q", "abc", "/q"
	answers(t, h, long, 413, "too long", "B", "v", "A", "1")
	answers(t, h, bare, 403, "forbidden", "A", "1")
	slices.Reverse(l)
	h = wrapped(t, never(t), l...)
	answers(t, h, bare, 404, "not found", "D", "-")
	bare.Path = "/t"
	answers(t, h, bare, 413, "too long", "C", "3", "D", "-")
	bare.Body = ""
	answers(t, h, bare, 403, "forbidden", "B", "-", "C", "3", "D", "-")
}

// lists are some of steps of each kind, none of which refuses a request with K: v, of the path /t/p.
func lists() [][]Step {
	return [][]Step{
		nil, {adding("A", "1")}, {needing("K", "v")}, {limiting(9)}, {taking("/t")}, {asking("K", "B")},
		{adding("A", "1"), needing("K", ""), limiting(9), taking("/t"), asking("K", "B"), asking("L", "C"), adding("D", "4"), adding("E", "5")},
	}
}

// scribble changes all of l, its spare room too.
func scribble(l []api.Field) {
	l = l[:cap(l)]
	for i := range l {
		l[i] = api.Field{Name: "scribbled", Value: "over"}
	}
}

// roomy are l's fields with n places of spare room behind them, in which something stands.
func roomy(l []api.Field, n int) []api.Field {
	x := slices.Clone(l)
	for i := range n {
		x = append(x, api.Field{Name: "spare", Value: strconv.Itoa(i)})
	}
	return x[:len(l):len(x)]
}

// P13.2: whatever the handler does to its request's fields, those handed in stay, their spare room too.
func TestRequestStays(t *testing.T) {
	for _, l := range lists() {
		for _, spare := range []int{0, 1, 20} {
			for _, given := range [][]api.Field{nil, fields("K", "v"), fields("J", "u", "K", "v", "L", "w")} {
				if given == nil && len(l) > 0 {
					continue
				}
				r := api.Request{Path: "/t/p", Fields: roomy(given, spare)}
				all := slices.Clone(r.Fields[:cap(r.Fields)])
				var ahead []api.Field
				w := wrapped(t, func(r api.Request) api.Reply {
					if !slices.Equal(r.Fields, given) {
						t.Errorf("%v: the fields %v came to the handler", l, r.Fields)
					}
					scribble(ahead) // one request's fields are no other's
					if !slices.Equal(r.Fields, given) {
						t.Errorf("%v: an earlier request's fields were kept", l)
					}
					ahead = r.Fields
					scribble(r.Fields)
					scribble(append(r.Fields, api.Field{Name: "more"}))
					return api.Reply{Code: 200, Fields: r.Fields}
				}, l...)
				for range 2 {
					x := w(r)
					for _, f := range x.Fields {
						if f.Name == "B" && f.Value != "v" {
							t.Errorf("%v: %v tells what the handler wrote", l, f)
						}
					}
					scribble(x.Fields)
					if !slices.Equal(r.Fields[:cap(r.Fields)], all) {
						t.Fatalf("%v: the request's fields changed: %v", l, r.Fields[:cap(r.Fields)])
					}
				}
			}
		}
	}
}

// P13.2: what is done to a reply's fields is not seen by the handler, and what it does to what it answered is not seen in them.
func TestReplyStays(t *testing.T) {
	for _, l := range lists() {
		for _, spare := range []int{0, 1, 20} {
			for _, own := range [][]api.Field{nil, fields("X", "1"), fields("X", "1", "Y", "2", "Z", "3")} {
				kept := roomy(own, spare)
				all := slices.Clone(kept[:cap(kept)])
				w := wrapped(t, func(api.Request) api.Reply { return api.Reply{Code: 200, Fields: kept} }, l...)
				r := api.Request{Path: "/t/p", Fields: fields("K", "v")}
				x, y := w(r), w(r)
				if !slices.Equal(kept[:cap(kept)], all) {
					t.Fatalf("%v: the handler's fields changed: %v", l, kept[:cap(kept)])
				}
				told := slices.Clone(y.Fields)
				if !slices.Equal(x.Fields, told) {
					t.Errorf("%v: %v, and then %v", l, x.Fields, told)
				}
				scribble(x.Fields)
				if !slices.Equal(kept[:cap(kept)], all) || !slices.Equal(y.Fields, told) {
					t.Fatalf("%v: a reply's fields are the handler's or another's: %v, %v", l, kept, y.Fields)
				}
				scribble(kept)
				if !slices.Equal(y.Fields, told) {
					t.Fatalf("%v: a reply's fields changed: %v", l, y.Fields)
				}
			}
		}
	}
}

// P13.2, R4: a reply that answers the request's fields has others.
func TestAnswerStays(t *testing.T) {
	for _, l := range lists() {
		r := api.Request{Path: "/t/p", Fields: roomy(fields("K", "v"), 20)}
		all := slices.Clone(r.Fields[:cap(r.Fields)])
		x := wrapped(t, func(got api.Request) api.Reply { return api.Reply{Fields: got.Fields} }, l...)(r)
		y := wrapped(t, func(got api.Request) api.Reply { return api.Reply{Fields: r.Fields} }, l...)(r)
		if !slices.Equal(x.Fields, y.Fields) || !slices.Equal(x.Fields[:1], r.Fields) {
			t.Errorf("%v: %v, %v", l, x.Fields, y.Fields)
		}
		scribble(x.Fields)
		scribble(y.Fields)
		if !slices.Equal(r.Fields[:cap(r.Fields)], all) {
			t.Errorf("%v: the request's fields changed: %v", l, r.Fields)
		}
	}
}

// P13.2, R4: the steps that are handed in stay, and are not kept.
func TestStepsStay(t *testing.T) {
	l := append(make([]Step, 0, 20), adding("A", "1"), adding("B", "2"), taking("/t"))
	spare := l[:20]
	spare[3], spare[4] = adding("C", "3"), needing("K", "v")
	all := slices.Clone(spare)
	w := wrapped(t, path, l...)
	answers(t, w, api.Request{Path: "/t/p"}, 200, "/p", "B", "2", "A", "1")
	if !slices.Equal(spare, all) {
		t.Errorf("the steps changed: %v", spare)
	}
	for i := range spare {
		spare[i] = needing("Never", "")
	}
	answers(t, w, api.Request{Path: "/t/p"}, 200, "/p", "B", "2", "A", "1")
}

// R3: handlers know nothing of one another, nor a handler's call of the calls ahead of it.
func TestApart(t *testing.T) {
	steps := []Step{adding("A", "1"), needing("K", "v"), taking("/t")}
	v, w := wrapped(t, path, steps...), wrapped(t, path, steps[:1]...)
	for range 3 {
		answers(t, v, api.Request{Path: "/t/p", Fields: fields("K", "v")}, 200, "/p", "A", "1")
		answers(t, w, api.Request{Path: "/t/p"}, 200, "/t/p", "A", "1")
		answers(t, v, api.Request{Path: "/t/p"}, 403, "forbidden", "A", "1")
		answers(t, v, api.Request{Path: "/p", Fields: fields("K", "v")}, 404, "not found", "A", "1")
	}
	// a handler may ask itself, with its steps
	var self Handler
	self = wrapped(t, func(r api.Request) api.Reply {
		if r.Path == "/" {
			return api.Reply{Code: 200, Body: "end"}
		}
		return self(r)
	}, adding("A", "1"), taking("/a"))
	answers(t, self, api.Request{Path: "/a/a/a"}, 200, "end", "A", "1", "A", "1", "A", "1")
	answers(t, self, api.Request{Path: "/a/a/b"}, 404, "not found", "A", "1", "A", "1", "A", "1")
}

// plain is what the chapter says of steps, right ones, around a handler: they are gone through, and what they add is put there from the inside out.
func plain(l []Step, h Handler, r api.Request) api.Reply {
	var added []api.Field
	x := api.Reply{Code: -1}
	for _, s := range l {
		first, there := "", false
		for i := len(r.Fields) - 1; i >= 0; i-- {
			if strings.ToUpper(r.Fields[i].Name) == strings.ToUpper(s.Name) {
				first, there = r.Fields[i].Value, true
			}
		}
		switch {
		case s.Kind == SAdd:
			added = append(added, api.Field{Name: s.Name, Value: s.Value})
		case s.Kind == SWho && there:
			added = append(added, api.Field{Name: s.Value, Value: first})
		case s.Kind == SWho:
			added = append(added, api.Field{Name: s.Value, Value: "-"})
		case s.Kind == SNeed && (!there || s.Value != "" && s.Value != first):
			x = api.Reply{Code: 403, Body: "forbidden"}
		case s.Kind == SLimit && len(r.Body) > s.N:
			x = api.Reply{Code: 413, Body: "too long"}
		case s.Kind == STake && !strings.HasPrefix(r.Path+"/", s.Value+"/"):
			x = api.Reply{Code: 404, Body: "not found"}
		case s.Kind == STake && r.Path == s.Value:
			r.Path = "/"
		case s.Kind == STake:
			r.Path = r.Path[len(s.Value):]
		}
		if x.Code >= 0 {
			break
		}
	}
	if x.Code < 0 {
		x = h(r)
	}
	x.Fields = slices.Clone(x.Fields)
	for i := len(added) - 1; i >= 0; i-- {
		x.Fields = append(x.Fields, added[i])
	}
	return x
}

// pick is one of l.
func pick[T any](r *rand.Rand, l ...T) T { return l[r.Intn(len(l))] }

// drawn is a right step; of those that refuse, mostly one that does not.
func drawn(r *rand.Rand) Step {
	name := pick(r, "K", "k", "L", "l", "M")
	switch 1 + r.Intn(5) {
	case SAdd:
		return adding(pick(r, "A", "B", "K"), pick(r, "1", "", "2 3"))
	case SNeed:
		return needing(name, pick(r, "", "", "v", "v", "w"))
	case SLimit:
		return limiting(pick(r, 0, 3, 4, 5, 6, 100, 100))
	case STake:
		return taking(pick(r, "/a", "/a", "/b", "/a/b"))
	}
	return asking(name, pick(r, "A", "W"))
}

// drawnSteps are some, not more than may be.
func drawnSteps(r *rand.Rand, most int) []Step {
	var l []Step
	for range r.Intn(most + 1) {
		l = append(l, drawn(r))
	}
	return l
}

// drawnRequest is one that meets some of the steps that are drawn.
func drawnRequest(r *rand.Rand) api.Request {
	x := api.Request{Method: pick(r, "GET", "POST"), Version: 11, Body: strings.Repeat("x", r.Intn(8))}
	for range r.Intn(6) {
		x.Path += pick(r, "/a", "/a", "/a", "/b", "/", "/ab")
	}
	for range r.Intn(6) {
		x.Fields = append(x.Fields, api.Field{Name: pick(r, "K", "k", "L", "l", "A"), Value: pick(r, "v", "v", "w", "")})
	}
	return x
}

// echo tells all that came to it.
func echo(r api.Request) api.Reply {
	return api.Reply{Code: 200 + len(r.Body), Body: r.Method + " " + r.Path + " " + r.Body, Fields: r.Fields}
}

// P13.1, P13.3: steps that are drawn, against the plain reading.
func TestPlain(t *testing.T) {
	r := rand.New(rand.NewSource(1))
	seen := map[int]int{}
	for range 20000 {
		l := drawnSteps(r, api.MaxSteps)
		w := wrapped(t, echo, l...)
		for range 5 {
			x := drawnRequest(r)
			got, want := w(x), plain(l, echo, x)
			if !alike(got, want) {
				t.Fatalf("%v of %v: %v, want %v", l, x, got, want)
			}
			if got.Code < 300 { // the codes of echo tell how long the body is
				got.Code = 200
			}
			seen[got.Code]++
		}
	}
	for _, code := range []int{200, 403, 404, 413} {
		if seen[code] < 1000 {
			t.Errorf("too few were answered by %d: %d", code, seen[code])
		}
	}
}

// P13.3: steps around steps are the steps one behind the other.
func TestAround(t *testing.T) {
	r := rand.New(rand.NewSource(2))
	for range 20000 {
		l := drawnSteps(r, api.MaxSteps)
		cut := r.Intn(len(l) + 1)
		whole := wrapped(t, echo, l...)
		parts := wrapped(t, wrapped(t, echo, l[cut:]...), l[:cut]...)
		single := Handler(echo)
		for _, s := range slices.Backward(l) {
			single = wrapped(t, single, s)
		}
		for range 5 {
			x := drawnRequest(r)
			a, b, c := whole(x), parts(x), single(x)
			if !alike(a, b) || !alike(a, c) {
				t.Fatalf("%v cut at %d, of %v: %v, %v, %v", l, cut, x, a, b, c)
			}
		}
	}
	// so there may be more steps than of one call
	h, want := Handler(path), []string{}
	for i := range 3000 {
		n := strconv.Itoa(i)
		h = wrapped(t, h, adding("A", n), limiting(i))
		want = append(want, "A", n)
	}
	answers(t, h, api.Request{Path: "/p"}, 200, "/p", want...)
	answers(t, h, api.Request{Path: "/p", Body: "12"}, 413, "too long", want[2:]...)
}
