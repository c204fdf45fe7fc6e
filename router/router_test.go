package router

import (
	"fmt"
	"math"
	"math/rand"
	"net/url"
	"slices"
	"strings"
	"testing"

	"crier/api"
)

// The routes of each kind.
func fixed(method, pattern, text string) Route {
	return Route{Method: method, Pattern: pattern, Kind: RFixed, Text: text}
}
func echo(method, pattern string) Route {
	return Route{Method: method, Pattern: pattern, Kind: REcho}
}
func params(method, pattern string) Route {
	return Route{Method: method, Pattern: pattern, Kind: RParams}
}
func upgrade(pattern string) Route {
	return Route{Method: "GET", Pattern: pattern, Kind: RUpgrade}
}

// short tells x in no more than some bytes.
func short(x any) string {
	s := fmt.Sprintf("%+v", x)
	return s[:min(len(s), 200)]
}

// made is a router of these routes.
func made(t *testing.T, l ...Route) *Router {
	t.Helper()
	x, err := New(l)
	if x == nil || err != api.OK {
		t.Fatalf("New(%s): %v, %d", short(l), x != nil, err)
	}
	return x
}

// refused says whether New answers this error, and no router, of these routes.
func refused(t *testing.T, want api.Errno, l ...Route) {
	t.Helper()
	if x, err := New(l); x != nil || err != want {
		t.Errorf("New(%s): %v, %d, want %d", short(l), x != nil, err, want)
	}
}

// asks is a request of a method and a path, with the body hi, and with all else that a router is not to look at.
func asks(method, path string) api.Request {
	return api.Request{
		Method: method, Path: path, Query: "q=/a/b", Version: 10, Body: "hi", Close: true,
		Fields: []api.Field{{Name: "Host", Value: "x"}, {Name: "Allow", Value: "PUT"}, {Name: "X-HTTP-Method-Override", Value: "PUT"}},
	}
}

// alike says whether two replies are the same; a list without elements is as none.
func alike(a, b api.Reply) bool {
	return a.Code == b.Code && a.Body == b.Body && slices.Equal(a.Fields, b.Fields)
}

// told says whether x answers a request by this reply, of this kind.
func told(t *testing.T, x *Router, r api.Request, want api.Reply, wantKind int) {
	t.Helper()
	got, kind := x.Serve(r)
	if !alike(got, want) || kind != wantKind {
		t.Errorf("Serve(%.80q %.80q): %s, %d, want %s, %d", r.Method, r.Path, short(got), kind, short(want), wantKind)
	}
}

// serves says whether what asks answers by this code and body, and no fields, of this kind.
func serves(t *testing.T, x *Router, method, path string, code int, body string, kind int) {
	t.Helper()
	told(t, x, asks(method, path), api.Reply{Code: code, Body: body}, kind)
}

// bad, missing and other say whether what asks is refused, as its path is none, nothing fits it, or only these methods may be.
func bad(t *testing.T, x *Router, method, path string) {
	t.Helper()
	serves(t, x, method, path, 400, "bad path", 0)
}
func missing(t *testing.T, x *Router, method, path string) {
	t.Helper()
	serves(t, x, method, path, 404, "not found", 0)
}
func other(t *testing.T, x *Router, method, path, allow string) {
	t.Helper()
	told(t, x, asks(method, path), api.Reply{
		Code: 405, Fields: []api.Field{{Name: "Allow", Value: allow}}, Body: "no such method",
	}, 0)
}

// examples are the chapter's routes.
func examples() []Route {
	return []Route{fixed("GET", "/", "home"), params("GET", "/a/:x"), echo("POST", "/a/:x"), upgrade("/ws"), fixed("GET", "/a/b", "b")}
}

// P14.1, P14.2: the chapter's examples.
func TestExample(t *testing.T) {
	x := made(t, examples()...)
	serves(t, x, "GET", "/", 200, "home", 1)
	serves(t, x, "HEAD", "/", 200, "home", 1)
	serves(t, x, "GET", "/a/b", 200, "b", 1)
	serves(t, x, "GET", "/a/z", 200, "x=z\n", 3)
	serves(t, x, "POST", "/a/z", 200, "hi", 2)
	other(t, x, "POST", "/a/b", "GET, HEAD")
	missing(t, x, "GET", "/q")
	other(t, x, "PUT", "/a/z", "GET, HEAD, POST")
	serves(t, x, "GET", "/ws", 101, "", 4)
	bad(t, x, "GET", "/%zz")
	if got := x.Routes(); !slices.Equal(got, examples()) {
		t.Errorf("Routes: %v", got)
	}
}

// right says whether a route may be, alone and behind others.
func right(t *testing.T, r Route) {
	t.Helper()
	if !Right(r) {
		t.Errorf("Right(%s): false", short(r))
	}
	for _, l := range [][]Route{{r}, {echo("OTHER", "/other"), r}, {r, echo("OTHER", "/other")}} {
		if x, err := New(l); x == nil || err != api.OK {
			t.Errorf("New(%s): %v, %d", short(l), x != nil, err)
		}
	}
}

// wrong says whether a route may not be, wherever it stands.
func wrong(t *testing.T, r Route) {
	t.Helper()
	if Right(r) {
		t.Errorf("Right(%s): true", short(r))
	}
	for _, i := range []int{0, 1, 15, 31} {
		l := many(api.MaxRoutes)
		l[i] = r
		refused(t, api.ErrArg, l...)
		refused(t, api.ErrArg, l[:i+1]...)
		refused(t, api.ErrArg, l[i:]...)
	}
}

// many are n right routes, no two of which stand in each other's way.
func many(n int) []Route {
	l := make([]Route, n)
	for i := range l {
		l[i] = fixed("GET", fmt.Sprintf("/many/%d", i), fmt.Sprint(i))
	}
	return l
}

// P14.1: each kind with each method, pattern and text that may be, and that may not.
func TestRight(t *testing.T) {
	full, long := strings.Repeat("t", 4096), strings.Repeat("L", 100000)
	goodMethods := []string{"GET", "HEAD", "POST", "get", "G", "GETS", "1", "!#$%&'*+-.^_`|~", "Get", long}
	badMethods := []string{"", " ", "GET ", " GET", "G ET", "GET,", "G:", "G/", "G\x00", "G\x7f", "\xc3\xa9", "(", "G\r\n", "\"GET\""}
	goodPatterns := []string{"/", "/a", "/:x", "/*x", "/a/:x/b/*rest", "/.", "/%2f", "/\x00", "/a b", "/?", "/" + long}
	badPatterns := []string{"", "a", "//", "/a/", "/a//b", "/:", "/*", "/:x/:x", "/*x/b", "/:a-b", " /", "*", "/:" + strings.Repeat("n", 33)}
	for _, method := range append(slices.Clone(goodMethods), badMethods...) {
		for _, pattern := range append(slices.Clone(goodPatterns), badPatterns...) {
			may := slices.Contains(goodMethods, method) && slices.Contains(goodPatterns, pattern)
			for kind := -1; kind <= 6; kind++ {
				for _, text := range []string{"", "x", "\x00", full, full + "t", long} {
					want := may && (kind == RFixed && len(text) <= 4096 ||
						text == "" && (kind == REcho || kind == RParams || kind == RUpgrade && method == "GET"))
					r := Route{Method: method, Pattern: pattern, Kind: kind, Text: text}
					if got := Right(r); got != want {
						t.Errorf("Right(%s): %v", short(r), got)
					}
					wantErr := api.ErrArg
					if want {
						wantErr = api.OK
					}
					if x, err := New([]Route{r}); err != wantErr || (x != nil) != want {
						t.Errorf("New of %s: %v, %d", short(r), x != nil, err)
					}
				}
			}
		}
	}
}

// P14.1: routes of each kind, wherever they stand among others.
func TestRightAnywhere(t *testing.T) {
	for _, r := range []Route{
		fixed("GET", "/", ""), fixed("get", "/:x", "\r\n\x00\xff"), fixed("DELETE", "/*x", strings.Repeat("\xff", 4096)),
		echo("GET", "/"), echo("POST", "/a/:b"), params("GET", "/a"), params("X", "/:a/*b"), upgrade("/"), upgrade("/:a/*b"),
	} {
		right(t, r)
	}
	for _, r := range []Route{
		{}, fixed("", "/", "x"), fixed("GET", "", "x"), fixed("G T", "/", "x"), fixed("GET", "x", "x"), fixed("GET", "/", strings.Repeat("x", 4097)),
		{Method: "GET", Pattern: "/", Kind: REcho, Text: "x"}, {Method: "GET", Pattern: "/", Kind: RParams, Text: "x"}, {Method: "GET", Pattern: "/", Kind: RUpgrade, Text: "x"},
		echo("", "/"), echo("GET", ""), params("", "/"), params("GET", ""), upgrade(""),
		{Method: "HEAD", Pattern: "/", Kind: RUpgrade}, {Method: "POST", Pattern: "/", Kind: RUpgrade}, {Method: "get", Pattern: "/", Kind: RUpgrade}, {Method: "GETS", Pattern: "/", Kind: RUpgrade}, {Pattern: "/", Kind: RUpgrade},
		{Method: "GET", Pattern: "/", Text: "x"}, {Method: "GET", Pattern: "/"},
	} {
		wrong(t, r)
	}
}

// P14.1: no other kinds there are.
func TestKinds(t *testing.T) {
	if RFixed != 1 || REcho != 2 || RParams != 3 || RUpgrade != 4 {
		t.Error("the kinds:", RFixed, REcho, RParams, RUpgrade)
	}
	for _, kind := range []int{0, -1, 5, 6, -4, 257, 258, 259, 260, 1<<32 + 1, 1<<32 + 4, math.MinInt, math.MaxInt} {
		wrong(t, Route{Method: "GET", Pattern: "/", Kind: kind})
		wrong(t, Route{Method: "GET", Pattern: "/", Kind: kind, Text: "x"})
	}
}

// P14.1: whatever byte stands wherever in a method.
func TestMethodBytes(t *testing.T) {
	const marks = "!#$%&'*+-.^_`|~"
	for b := range 256 {
		c := string([]byte{byte(b)})
		inToken := b >= '0' && b <= '9' || b >= 'A' && b <= 'Z' || b >= 'a' && b <= 'z' || strings.Contains(marks, c)
		for _, method := range []string{c, c + "M", "M" + c, "M" + c + "M"} {
			for _, r := range []Route{fixed(method, "/", "x"), echo(method, "/"), params(method, "/")} {
				if got := Right(r); got != inToken {
					t.Errorf("Right(%v): %v", r, got)
				}
			}
			if Right(Route{Method: method, Pattern: "/", Kind: RUpgrade}) {
				t.Errorf("Right of an upgrade of %q: true", method)
			}
			if inToken {
				x := made(t, fixed(method, "/", "x"))
				serves(t, x, method, "/", 200, "x", 1)
				other(t, x, method+"M", "/", method)
			}
		}
	}
}

// P14.1: at most 32 routes, whatever they are.
func TestFull(t *testing.T) {
	for _, n := range []int{0, 1, 31, 32} {
		x := made(t, many(n)...)
		if got := x.Routes(); !slices.Equal(got, many(n)) {
			t.Errorf("Routes of %d: %v", n, got)
		}
		for i := range n {
			serves(t, x, "GET", fmt.Sprintf("/many/%d", i), 200, fmt.Sprint(i), 1)
		}
		missing(t, x, "GET", fmt.Sprintf("/many/%d", n))
	}
	for _, n := range []int{33, 34, 1000, 100000} {
		refused(t, api.ErrFull, many(n)...)
		refused(t, api.ErrFull, make([]Route, n)...)              // all are wrong, too
		refused(t, api.ErrFull, slices.Repeat(many(1), n)...)     // all are the same, too
		refused(t, api.ErrFull, append(many(n-1), Route{})...)    // the last one is wrong, too
		refused(t, api.ErrFull, append(many(n-1), many(1)[0])...) // the last one is there already, too
	}
	// many methods of one pattern count as many routes
	var l []Route
	for i := range 33 {
		l = append(l, echo(fmt.Sprintf("M%d", i), "/"))
	}
	made(t, l[:32]...)
	refused(t, api.ErrFull, l...)
}

// P14.1: which routes stand in each other's way, whichever is ahead, and whatever stands between.
func TestThere(t *testing.T) {
	for _, c := range []struct {
		a, b Route
		ok   bool
	}{
		{fixed("GET", "/a", "1"), fixed("GET", "/a", "1"), false}, {fixed("GET", "/a", "1"), fixed("GET", "/a", "2"), false},
		{fixed("GET", "/a", "1"), upgrade("/a"), false}, {echo("P", "/"), params("P", "/"), false}, {upgrade("/"), upgrade("/"), false},
		{echo("P", "/a/:x"), echo("P", "/a/:x"), false}, {echo("P", "/*x"), params("P", "/*x"), false},
		// twins that are not the same are refused of whatever methods
		{echo("P", "/:x"), echo("P", "/:y"), false}, {echo("P", "/:x"), echo("Q", "/:y"), false}, {echo("P", "/*x"), echo("P", "/*y"), false}, {echo("P", "/*x"), echo("Q", "/*y"), false},
		{echo("P", "/a/:x/b/*c"), echo("Q", "/a/:x/b/*d"), false}, {echo("P", "/a/:x/b/*c"), echo("Q", "/a/:y/b/*c"), false}, {fixed("GET", "/:x", "1"), fixed("HEAD", "/:X", "1"), false},
		// all others may stand together
		{echo("P", "/a"), echo("Q", "/a"), true}, {echo("GET", "/a"), echo("get", "/a"), true}, {echo("GET", "/a"), echo("HEAD", "/a"), true}, {echo("P", "/:x"), echo("Q", "/:x"), true}, {echo("P", "/*x"), echo("Q", "/*x"), true},
		{echo("P", "/a"), echo("P", "/b"), true}, {echo("P", "/a"), echo("P", "/A"), true}, {echo("P", "/a"), echo("P", "/:a"), true}, {echo("P", "/a"), echo("P", "/*a"), true}, {echo("P", "/:a"), echo("P", "/*a"), true}, {echo("P", "/:a"), echo("P", "/*b"), true},
		{echo("P", "/"), echo("P", "/a"), true}, {echo("P", "/"), echo("P", "/*a"), true}, {echo("P", "/:a"), echo("P", "/:a/:b"), true}, {echo("P", "/:a/b"), echo("P", "/:b/a"), true}, {echo("P", "/a/:x"), echo("P", "/:x/a"), true}, {echo("P", "/%41"), echo("P", "/A"), true},
	} {
		for _, l := range [][]Route{{c.a, c.b}, {c.b, c.a}, append(many(10), c.a, c.b), slices.Concat([]Route{c.a}, many(30), []Route{c.b}), slices.Concat([]Route{c.b}, many(30), []Route{c.a})} {
			if c.ok {
				made(t, l...)
			} else {
				refused(t, api.ErrThere, l...)
			}
		}
	}
	refused(t, api.ErrThere, echo("A", "/:x"), echo("B", "/:x"), echo("C", "/:y"))
	refused(t, api.ErrThere, echo("A", "/:x"), echo("B", "/:x"), echo("A", "/:x"))
	refused(t, api.ErrThere, echo("A", "/:x"), echo("B", "/:x"), echo("B", "/:x"))
}

// P14.1: of several errors the one of the first route that has one.
func TestErrorsInOrder(t *testing.T) {
	here, there, twin, bad := echo("P", "/:x"), echo("P", "/:x"), echo("Q", "/:y"), echo("", "/:x")
	refused(t, api.ErrThere, here, there, bad)
	refused(t, api.ErrThere, here, twin, bad)
	refused(t, api.ErrThere, here, there, Route{})
	refused(t, api.ErrArg, here, bad, there)
	refused(t, api.ErrArg, here, bad, twin)
	refused(t, api.ErrArg, bad, here, there)
	refused(t, api.ErrArg, Route{}, here, twin)
	// one that is wrong, and there too: it is judged first
	refused(t, api.ErrArg, here, Route{Method: "P", Pattern: "/:x", Kind: REcho, Text: "x"}, there)
	refused(t, api.ErrArg, here, Route{Method: "P", Pattern: "/:x", Kind: 9})
	refused(t, api.ErrArg, here, Route{Method: "P", Pattern: "/:y", Kind: RUpgrade}, twin)
	refused(t, api.ErrArg, bad, bad)
	// one that is wrong is not there for those behind it, which are not judged any more
	refused(t, api.ErrArg, append(many(30), bad, bad)...)
	refused(t, api.ErrThere, append(many(30), many(1)[0], bad)...)
}

// P14.2: what each kind answers, whatever the request has beside.
func TestAnswers(t *testing.T) {
	full := strings.Repeat("\xff\x00\r\n", 1024)
	x := made(t,
		fixed("GET", "/f", full), fixed("POST", "/f", ""), fixed("X", "/f/:a", "a"),
		echo("GET", "/e"), echo("POST", "/e"), echo("X", "/e/:a/*b"),
		params("GET", "/p"), params("GET", "/p/:a"), params("POST", "/p/:a/q/:b/*c"), params("GET", "/r/*rest"),
		upgrade("/u"), upgrade("/u/:a"))
	serves(t, x, "GET", "/f", 200, full, RFixed)
	serves(t, x, "POST", "/f", 200, "", RFixed)
	serves(t, x, "X", "/f/b", 200, "a", RFixed)
	for _, body := range []string{"", "a", "\x00\xff\r\n", strings.Repeat("b", 100000)} {
		for _, r := range []api.Request{{Method: "GET", Path: "/e"}, {Method: "POST", Path: "/e"}, {Method: "X", Path: "/e/a/b/c"}} {
			r.Body = body
			told(t, x, r, api.Reply{Code: 200, Body: body}, REcho)
		}
		told(t, x, api.Request{Method: "POST", Path: "/f", Body: body}, api.Reply{Code: 200}, RFixed)
		told(t, x, api.Request{Method: "GET", Path: "/p/z", Body: body}, api.Reply{Code: 200, Body: "a=z\n"}, RParams)
		told(t, x, api.Request{Method: "GET", Path: "/u", Body: body}, api.Reply{Code: 101}, RUpgrade)
	}
	serves(t, x, "GET", "/p", 200, "", RParams)
	serves(t, x, "GET", "/p/%41%20b", 200, "a=A b\n", RParams)
	serves(t, x, "GET", "/p/%3d%0a", 200, "a==\n\n", RParams)
	serves(t, x, "GET", "/p/%ff", 200, "a=\xff\n", RParams)
	serves(t, x, "GET", "/p/:a", 200, "a=:a\n", RParams)
	serves(t, x, "POST", "/p/1/q/2/3/4", 200, "a=1\nb=2\nc=3/4\n", RParams)
	serves(t, x, "POST", "/p/1/q/2/3//4/", 200, "a=1\nb=2\nc=3//4/\n", RParams)
	serves(t, x, "POST", "/p/z/q/a/", 200, "a=z\nb=a\nc=\n", RParams)
	serves(t, x, "GET", "/r/x", 200, "rest=x\n", RParams)
	serves(t, x, "GET", "/u/z", 101, "", RUpgrade)
}

// P14.2: names of parameters are told as they are, in the pattern's order.
func TestParams(t *testing.T) {
	name := strings.Repeat("n", 32)
	x := made(t, params("GET", "/:z/:a/:A/:_1/*"+name), params("GET", "/:only"), params("POST", "/:z/:a/:A/:_1/*"+name))
	for _, method := range []string{"GET", "HEAD", "POST"} {
		serves(t, x, method, "/1/2/3/4/5", 200, "z=1\na=2\nA=3\n_1=4\n"+name+"=5\n", RParams)
	}
	serves(t, x, "GET", "/z", 200, "only=z\n", RParams)
	long := strings.Repeat("s", 511)
	serves(t, x, "GET", "/"+long, 200, "only="+long+"\n", RParams)
}

// P14.2: paths that have no segments are refused ahead of all else; / alone has none, and is no bad one.
func TestBadPath(t *testing.T) {
	whole := []Route{echo("GET", "/"), echo("GET", "/:a"), echo("GET", "/*all")}
	for _, x := range []*Router{made(t), {}, made(t, examples()...), made(t, whole...)} {
		for _, method := range []string{"GET", "HEAD", "PUT", "", "\x00"} {
			for _, p := range []string{
				"", "a", "a/b", "*", "%2f", " /", "\\", "http://a/", "/?", "/a?b", "/?a", "/#", "/a#b", "/ ", "/a b", "/\x00", "/\xff", "/\xc3\xa9", "/\\", "/\"", "/<",
				"/%", "/%2", "/%zz", "/a%", "/a/%4g", "/.", "/..", "/a/.", "/a/..", "/../a", "/./", "/%2e", "/%2E%2e", "/.%2e/", "/%2f", "/a%2Fb", "/%00", "/a/b%00",
				"/" + strings.Repeat("a", 512), "/" + strings.Repeat("a", 100000), strings.Repeat("/", 513),
			} {
				bad(t, x, method, p)
			}
		}
	}
	x := made(t, whole...)
	serves(t, x, "GET", "/", 200, "hi", REcho)
	for _, p := range []string{"//", "/a/", "/...", "/%2e.a", "/:a/*b", "/%25", "/" + strings.Repeat("a/", 255) + "a", strings.Repeat("/", 512)} {
		serves(t, x, "GET", p, 200, "hi", REcho)
	}
	serves(t, x, "GET", "/"+strings.Repeat("a", 511), 200, "hi", REcho)
}

// P14.2: / alone has no segments; a path that has an empty one is another.
func TestRoot(t *testing.T) {
	x := made(t, fixed("GET", "/", "root"))
	serves(t, x, "GET", "/", 200, "root", RFixed)
	missing(t, x, "GET", "//")
	missing(t, x, "GET", "/a")
	x = made(t, fixed("GET", "/*all", "all"), fixed("GET", "/:a", "a"))
	missing(t, x, "GET", "/")
	missing(t, x, "HEAD", "/")
	serves(t, x, "GET", "//", 200, "all", RFixed)
	serves(t, x, "GET", "/a", 200, "a", RFixed)
	serves(t, x, "GET", "/a/", 200, "all", RFixed)
}

// P14.2: literals are held against what a path's bytes stand for, not against how they are written.
func TestWritten(t *testing.T) {
	x := made(t, fixed("GET", "/a b", "blank"), fixed("GET", "/%41", "escaped"), fixed("GET", "/A", "letter"), fixed("GET", "/\xc3\xa9", "e"), fixed("GET", "/..", "never"), fixed("GET", "/?", "mark"))
	serves(t, x, "GET", "/a%20b", 200, "blank", RFixed)
	serves(t, x, "GET", "/A", 200, "letter", RFixed)
	serves(t, x, "GET", "/%41", 200, "letter", RFixed)
	serves(t, x, "GET", "/%2541", 200, "escaped", RFixed)
	serves(t, x, "GET", "/%c3%A9", 200, "e", RFixed)
	serves(t, x, "GET", "/%3f", 200, "mark", RFixed)
	missing(t, x, "GET", "/a")
	missing(t, x, "GET", "/a+b")
	bad(t, x, "GET", "/..")
	bad(t, x, "GET", "/?")
}

// P14.2: what no pattern fits is not found, of whatever method; nor is anything where there are no routes.
func TestNotFound(t *testing.T) {
	x := made(t, examples()...)
	for _, method := range []string{"GET", "HEAD", "POST", "PUT", "", "get", "\x00"} {
		for _, p := range []string{"/q", "//", "/a", "/a/", "/a/b/", "/a/b/c", "/A/b", "/ws/", "/w", "/wss", "/WS", "/ws/a"} {
			missing(t, x, method, p)
			missing(t, made(t), method, p)
			missing(t, &Router{}, method, p)
		}
		missing(t, made(t), method, "/")
		missing(t, &Router{}, method, "/")
	}
}

// P14.2: the best pattern is taken ahead of the method: no other pattern's methods count.
func TestBestFirst(t *testing.T) {
	x := made(t, echo("DELETE", "/*all"), fixed("PUT", "/a/*all", "rest"), fixed("POST", "/a/:x", "param"), fixed("GET", "/a/b", "literal"))
	serves(t, x, "GET", "/a/b", 200, "literal", RFixed)
	other(t, x, "POST", "/a/b", "GET, HEAD")
	other(t, x, "PUT", "/a/b", "GET, HEAD")
	other(t, x, "DELETE", "/a/b", "GET, HEAD")
	other(t, x, "GET", "/a/c", "POST")
	other(t, x, "HEAD", "/a/c", "POST")
	serves(t, x, "POST", "/a/c", 200, "param", RFixed)
	other(t, x, "POST", "/a/c/d", "PUT")
	other(t, x, "GET", "/b", "DELETE")
	serves(t, x, "DELETE", "/a", 200, "hi", REcho)
}

// P14.2: methods rise byte by byte, each once, HEAD with them where GET is.
func TestAllow(t *testing.T) {
	for _, c := range []struct {
		methods []string
		allow   string
	}{
		{[]string{"GET"}, "GET, HEAD"}, {[]string{"HEAD"}, "HEAD"}, {[]string{"POST"}, "POST"}, {[]string{"get"}, "get"},
		{[]string{"GET", "HEAD"}, "GET, HEAD"}, {[]string{"GET", "get", "head"}, "GET, HEAD, get, head"}, {[]string{"GETS", "GE", "G"}, "G, GE, GETS"}, {[]string{"GETS", "GE", "G", "GET"}, "G, GE, GET, GETS, HEAD"},
		{[]string{"PUT", "POST", "DELETE"}, "DELETE, POST, PUT"}, {[]string{"PUT", "GET", "POST", "DELETE"}, "DELETE, GET, HEAD, POST, PUT"},
		{[]string{"HEAE", "HEAC", "GET"}, "GET, HEAC, HEAD, HEAE"}, {[]string{"~", "z", "a", "Z", "A", "9", "!"}, "!, 9, A, Z, a, z, ~"}, {[]string{"A", "A.", "A-", "AA"}, "A, A-, A., AA"},
		{[]string{"M10", "M9", "M1"}, "M1, M10, M9"},
	} {
		for range 4 {
			var l []Route
			for _, method := range c.methods {
				l = append(l, fixed(method, "/a/:x", method), echo(method, "/b"), params(method, "/*c"))
			}
			x := made(t, l...)
			for _, method := range []string{"NONE", "", "Get", "HEA", "GET,", "GET, HEAD", " GET", "\x00"} {
				other(t, x, method, "/a/z", c.allow)
				other(t, x, method, "/b", c.allow)
				other(t, x, method, "/c/c/c", c.allow)
			}
			for _, method := range strings.Split(c.allow, ", ") {
				want := method
				if method == "HEAD" && !slices.Contains(c.methods, "HEAD") {
					want = "GET"
				}
				serves(t, x, method, "/a/z", 200, want, RFixed)
				serves(t, x, method, "/b", 200, "hi", REcho)
			}
			slices.Reverse(c.methods)
		}
	}
}

// P14.2: as many methods as there may be routes, and long ones.
func TestAllowMany(t *testing.T) {
	var l []Route
	var names []string
	for i := range 31 {
		name := strings.Repeat("M", 1000) + fmt.Sprintf("%02d", 30-i)
		l, names = append(l, echo(name, "/")), append(names, name)
	}
	slices.Sort(names)
	other(t, made(t, l...), "X", "/", strings.Join(names, ", "))
	l = append(l, upgrade("/"))
	other(t, made(t, l...), "X", "/", "GET, HEAD, "+strings.Join(names, ", "))
}

// P14.2, P14.3: HEAD is answered as GET is, unless it has a route of its own.
func TestHead(t *testing.T) {
	for _, g := range []Route{fixed("GET", "/a/:x", "get"), echo("GET", "/a/:x"), params("GET", "/a/:x"), upgrade("/a/:x")} {
		x := made(t, g, echo("POST", "/a/:x"))
		want, kind := x.Serve(asks("GET", "/a/z"))
		if kind != g.Kind {
			t.Errorf("%v: the kind %d", g, kind)
		}
		told(t, x, asks("HEAD", "/a/z"), want, kind)
		for _, h := range []Route{fixed("HEAD", "/a/:x", "head"), echo("HEAD", "/a/:x"), params("HEAD", "/a/:x")} {
			ahead, behind, alone := made(t, h, g), made(t, g, h), made(t, h)
			own, ownKind := alone.Serve(asks("HEAD", "/a/z"))
			if ownKind != h.Kind {
				t.Errorf("%v: the kind %d", h, ownKind)
			}
			for _, x := range []*Router{ahead, behind} {
				told(t, x, asks("HEAD", "/a/z"), own, ownKind)
				told(t, x, asks("GET", "/a/z"), want, kind)
			}
			other(t, alone, "GET", "/a/z", "HEAD")
		}
	}
	// it is GET of the best pattern alone, and no other method stands for another one
	x := made(t, fixed("GET", "/*all", "all"), fixed("POST", "/a", "post"), fixed("HEAD", "/b", "head"))
	other(t, x, "HEAD", "/a", "POST")
	other(t, x, "GET", "/b", "HEAD")
	serves(t, x, "HEAD", "/b", 200, "head", RFixed)
	serves(t, x, "HEAD", "/c", 200, "all", RFixed)
	other(t, x, "head", "/c", "GET, HEAD")
	other(t, x, "Get", "/c", "GET, HEAD")
}

// P14.2: of a nil router nothing is found, not even that a path is bad; it has no routes.
func TestNil(t *testing.T) {
	var x *Router
	for _, method := range []string{"GET", "HEAD", "PUT", ""} {
		for _, p := range []string{"/", "/a", "", "a", "/%zz", "/" + strings.Repeat("a", 1000)} {
			missing(t, x, method, p)
		}
	}
	if l := x.Routes(); len(l) != 0 {
		t.Errorf("Routes of nil: %v", l)
	}
	if l := (&Router{}).Routes(); len(l) != 0 {
		t.Errorf("Routes of one that New did not make: %v", l)
	}
}

// P14.2: the routes are told as they were handed in, in that order.
func TestRoutes(t *testing.T) {
	l := []Route{fixed("b", "/z", "2"), echo("a", "/a"), fixed("a", "/z", "1"), upgrade("/a/:b/*c"), params("HEAD", "/"), fixed("GET", "/", ""), echo("PUT", "/a")}
	for i := range len(l) + 1 {
		if got := made(t, l[:i]...).Routes(); !slices.Equal(got, l[:i]) {
			t.Errorf("Routes: %v, want %v", got, l[:i])
		}
	}
}

// R4: what is handed in stays, and is not kept; what is answered is new memory.
func TestStays(t *testing.T) {
	l := append(make([]Route, 0, 20), examples()...)
	spare := l[:20]
	spare[5], spare[6] = echo("X", "/x"), Route{}
	all := slices.Clone(spare)
	x := made(t, l...)
	if !slices.Equal(spare, all) {
		t.Fatalf("the routes changed: %v", spare)
	}
	for i := range spare {
		spare[i] = echo("S", "/scribbled")
	}
	for range 2 {
		got := x.Routes()
		if !slices.Equal(got, examples()) {
			t.Fatalf("Routes: %v", got)
		}
		got = got[:cap(got)]
		for i := range got {
			got[i] = echo("S", "/scribbled")
		}
		serves(t, x, "GET", "/a/b", 200, "b", RFixed)
		missing(t, x, "S", "/scribbled")
		y, _ := x.Serve(asks("PUT", "/a/z"))
		y.Fields[0] = api.Field{Name: "Scribbled", Value: "over"}
		_ = append(y.Fields, api.Field{Name: "more"})
		other(t, x, "PUT", "/a/z", "GET, HEAD, POST")
	}
	r := asks("PUT", "/a/z")
	fields := slices.Clone(r.Fields)
	x.Serve(r)
	if !slices.Equal(r.Fields, fields) {
		t.Errorf("the request's fields changed: %v", r.Fields)
	}
}

// R3: routers know nothing of one another, nor a call of Serve of those ahead of it.
func TestApart(t *testing.T) {
	l := examples()
	x, y := made(t, l...), made(t, l[:2]...)
	refused(t, api.ErrThere, append(l, echo("PUT", "/a/:y"))...)
	for range 3 {
		other(t, x, "PUT", "/a/z", "GET, HEAD, POST")
		other(t, y, "PUT", "/a/z", "GET, HEAD")
		other(t, y, "POST", "/a/z", "GET, HEAD")
		serves(t, x, "POST", "/a/z", 200, "hi", REcho)
		serves(t, y, "GET", "/a/b", 200, "x=b\n", RParams)
		serves(t, x, "GET", "/a/b", 200, "b", RFixed)
		missing(t, y, "GET", "/ws")
	}
}

// parts are what stands between the slashes of what begins with one; none of / alone.
func parts(s string) []string {
	if s == "/" {
		return nil
	}
	return strings.Split(s[1:], "/")
}

// plainPath are the segments of a path, as chapter 11 has them, read by the library.
func plainPath(p string) ([]string, bool) {
	if len(p) > 512 || !strings.HasPrefix(p, "/") || strings.ContainsAny(p, "?# \\\x00\"<>^`{|}[]") {
		return nil, false
	}
	l := parts(p)
	for i := range l {
		s, err := url.PathUnescape(l[i])
		if err != nil || s == "." || s == ".." || strings.ContainsAny(s, "/\x00") {
			return nil, false
		}
		l[i] = s
	}
	return l, true
}

// rank is what a pattern's segment is: the better, the greater.
func rank(segment string) int {
	switch segment[0] {
	case '*':
		return 1
	case ':':
		return 2
	}
	return 3
}

// fits says whether a pattern fits segments, and what its parameters and its rest are, a line each.
func fits(pattern string, l []string) (lines string, ok bool) {
	want := parts(pattern)
	for i, w := range want {
		switch {
		case i >= len(l):
			return "", false
		case rank(w) == 1:
			return lines + w[1:] + "=" + strings.Join(l[i:], "/") + "\n", true
		case rank(w) == 2 && l[i] == "" || rank(w) == 3 && l[i] != w:
			return "", false
		case rank(w) == 2:
			lines += w[1:] + "=" + l[i] + "\n"
		}
	}
	return lines, len(want) == len(l)
}

// better says whether of two patterns that fit the same the first one is better.
func better(a, b string) bool {
	l, m := parts(a), parts(b)
	for i := range min(len(l), len(m)) {
		if rank(l[i]) != rank(m[i]) {
			return rank(l[i]) > rank(m[i])
		}
	}
	return false
}

// twins says whether two patterns are.
func twins(a, b string) bool {
	return slices.EqualFunc(parts(a), parts(b), func(x, y string) bool {
		return rank(x) == rank(y) && (rank(x) < 3 || x == y)
	})
}

// plain is what the chapter says of a request to right routes: all of them are gone through.
func plain(l []Route, r api.Request) (api.Reply, int) {
	segments, ok := plainPath(r.Path)
	if !ok {
		return api.Reply{Code: 400, Body: "bad path"}, 0
	}
	best, lines := "", ""
	for _, o := range l {
		if p, ok := fits(o.Pattern, segments); ok && (best == "" || better(o.Pattern, best)) {
			best, lines = o.Pattern, p
		}
	}
	if best == "" {
		return api.Reply{Code: 404, Body: "not found"}, 0
	}
	found, methods := map[string]Route{}, []string{}
	for _, o := range l {
		if o.Pattern == best {
			found[o.Method] = o
			methods = append(methods, o.Method)
		}
	}
	if g, ok := found["GET"]; ok && !slices.Contains(methods, "HEAD") {
		found["HEAD"] = g
		methods = append(methods, "HEAD")
	}
	slices.Sort(methods)
	if !slices.Contains(methods, r.Method) {
		allow := []api.Field{{Name: "Allow", Value: strings.Join(methods, ", ")}}
		return api.Reply{Code: 405, Body: "no such method", Fields: allow}, 0
	}
	o := found[r.Method]
	return []api.Reply{{}, {Code: 200, Body: o.Text}, {Code: 200, Body: r.Body}, {Code: 200, Body: lines}, {Code: 101}}[o.Kind], o.Kind
}

// plainNew is New's error, by holding each route against each one ahead.
func plainNew(l []Route) api.Errno {
	if len(l) > 32 {
		return api.ErrFull
	}
	for i, r := range l {
		if !Right(r) {
			return api.ErrArg
		}
		for _, o := range l[:i] {
			if o.Pattern == r.Pattern && o.Method == r.Method || o.Pattern != r.Pattern && twins(o.Pattern, r.Pattern) {
				return api.ErrThere
			}
		}
	}
	return api.OK
}

// pick is one of l.
func pick[T any](r *rand.Rand, l ...T) T { return l[r.Intn(len(l))] }

// drawnPattern is one; of a place the names are mostly the same, so that twins are rare.
func drawnPattern(r *rand.Rand) string {
	s := ""
	for i := range r.Intn(4) {
		switch r.Intn(8) {
		case 0, 1:
			s += fmt.Sprintf("/:p%d", i)
		case 2:
			return s + fmt.Sprintf("/*r%d", i)
		case 3:
			s += pick(r, "/A b", "/%41", "/c")
		default:
			s += pick(r, "/a", "/b")
		}
	}
	if s == "" || r.Intn(40) > 0 {
		return max(s, "/")
	}
	return s + pick(r, "/:other", "/*other", "/", "/:p0")
}

// drawnRoute is a route, seldom one that is not right.
func drawnRoute(r *rand.Rand) Route {
	pattern := drawnPattern(r)
	method := pick(r, "GET", "GET", "HEAD", "POST", "PUT", "get")
	if r.Intn(100) == 0 {
		return Route{Method: pick(r, "", "G T", method), Pattern: pattern, Kind: r.Intn(7) - 1, Text: pick(r, "", "x")}
	}
	switch r.Intn(4) {
	case 0:
		return fixed(method, pattern, fmt.Sprint(r.Intn(1000)))
	case 1:
		return echo(method, pattern)
	case 2:
		return upgrade(pattern)
	}
	return params(method, pattern)
}

// drawnRequest is one that many patterns fit.
func drawnRequest(r *rand.Rand) api.Request {
	p := ""
	for range r.Intn(5) {
		p += pick(r, "/a", "/b", "/a", "/b", "/c", "/", "/z", "/%61", "/A%20b", "/%2541", "/%41", "/...")
	}
	if r.Intn(20) == 0 {
		p += pick(r, "/..", "/%2e", "/%zz", "?", "/a%2fb", "/%00", "#", " ", "/%")
	}
	if r.Intn(10) > 0 {
		p = max(p, "/")
	}
	return api.Request{Method: pick(r, "GET", "HEAD", "POST", "PUT", "get", "NONE"), Path: p, Body: pick(r, "", "body")}
}

// P14.1 to P14.3: routes and requests that are drawn, against the plain reading; the routes in another order answer the same.
func TestPlain(t *testing.T) {
	r := rand.New(rand.NewSource(1))
	codes, kinds, errs := map[int]int{}, map[int]int{}, map[api.Errno]int{}
	for range 10000 {
		var l []Route
		for range r.Intn(pick(r, 5, 10, 20, 35)) {
			l = append(l, drawnRoute(r))
		}
		if pick(r, true, true, true, false) { // such lists are seldom free of what is there twice
			l = without(l)
		}
		x, err := New(l)
		if want := plainNew(l); err != want || (x != nil) != (err == api.OK) {
			t.Fatalf("New(%v): %v, %d, want %d", l, x != nil, err, want)
		}
		errs[err]++
		if err != api.OK {
			continue
		}
		mixed := slices.Clone(l)
		r.Shuffle(len(mixed), func(i, j int) { mixed[i], mixed[j] = mixed[j], mixed[i] })
		y := made(t, mixed...)
		for range 30 {
			q := drawnRequest(r)
			want, kind := plain(l, q)
			told(t, x, q, want, kind)
			told(t, y, q, want, kind)
			codes[want.Code]++
			kinds[kind]++
		}
		if t.Failed() {
			t.Fatalf("the routes: %v", l)
		}
	}
	enough(t, codes, 200, 101, 400, 404, 405)
	enough(t, kinds, 0, RFixed, REcho, RParams, RUpgrade)
	enough(t, errs, api.OK, api.ErrArg, api.ErrThere)
}

// without are the routes of l that stand in the way of none ahead.
func without(l []Route) []Route {
	var x []Route
	for _, r := range l {
		if !strings.HasPrefix(r.Pattern, "/") || !Right(r) || plainNew(append(slices.Clone(x), r)) == api.OK {
			x = append(x, r)
		}
	}
	return x
}

// enough says whether each of these was seen often.
func enough[T comparable](t *testing.T, seen map[T]int, l ...T) {
	t.Helper()
	for _, what := range l {
		if seen[what] < 300 {
			t.Errorf("too few were %v: %d", what, seen[what])
		}
	}
}

// P14.3: all orders of routes that all fit one path answer the same; HEAD as GET, where it has no route of its own; what Allow tells is served, and nothing else.
func TestOrders(t *testing.T) {
	l := []Route{fixed("GET", "/a/b", "1"), fixed("HEAD", "/a/b", "2"), params("POST", "/a/:x"), params("GET", "/a/:x"), echo("PUT", "/*r"), upgrade("/:x/b")}
	methods := []string{"GET", "HEAD", "POST", "PUT", "NONE", ""}
	var each func(n int)
	each = func(n int) {
		if n > 1 {
			for i := range n {
				l[i], l[n-1] = l[n-1], l[i]
				each(n - 1)
				l[i], l[n-1] = l[n-1], l[i]
			}
			return
		}
		x := made(t, l...)
		for _, p := range []string{"/a/b", "/a/c", "/c/b", "/c", "/"} {
			for _, method := range methods {
				q := asks(method, p)
				want, kind := plain(l, q)
				told(t, x, q, want, kind)
			}
			served(t, x, p, methods)
		}
	}
	each(len(l))
}

// served says whether just those of the methods are served that Allow tells of a path.
func served(t *testing.T, x *Router, p string, methods []string) {
	t.Helper()
	refusal, _ := x.Serve(asks("NONE", p))
	if refusal.Code != 405 {
		return
	}
	allow := strings.Split(refusal.Fields[0].Value, ", ")
	for _, method := range methods {
		got, kind := x.Serve(asks(method, p))
		if is := got.Code != 405 && kind > 0; is != slices.Contains(allow, method) {
			t.Errorf("%s %s is served: %v, but Allow tells %q", method, p, is, allow)
		}
	}
}
