package trie

import (
	"fmt"
	"math"
	"math/rand"
	"slices"
	"strings"
	"testing"

	"crier/api"
)

// adds puts patterns there, which have 1, 2 and so on.
func adds(t *testing.T, x *Trie[int], l ...string) {
	t.Helper()
	for i, pattern := range l {
		if err := x.Add(pattern, i+1); err != api.OK {
			t.Fatalf("Add(%.80q): %d", pattern, err)
		}
	}
}

// made is a trie of these patterns, which have 1, 2 and so on, with room for no more.
func made(t *testing.T, l ...string) *Trie[int] {
	t.Helper()
	x := New[int](len(l))
	adds(t, x, l...)
	return x
}

// stands says whether x tells of itself that it has just these patterns, with 1, 2 and so on.
func stands(t *testing.T, x *Trie[int], l ...string) {
	t.Helper()
	if got := x.All(); !slices.Equal(got, l) || x.Len() != len(l) {
		t.Errorf("it has %.80q (%d), want %.80q", got, x.Len(), l)
	}
	for i, pattern := range l {
		if n, ok := x.Get(pattern); n != i+1 || !ok {
			t.Errorf("Get(%.80q): %d, %v, want %d", pattern, n, ok, i+1)
		}
	}
}

// cut are the segments of a path that is written with slashes between them; none of the empty text.
func cut(path string) []string {
	if path == "" {
		return nil
	}
	return strings.Split(path, "/")
}

// finds says whether a path comes to the pattern that has n, with these names and values by turns.
func finds(t *testing.T, x *Trie[int], path []string, n int, pattern string, params ...string) {
	t.Helper()
	var want []api.Field
	for i := 0; i < len(params); i += 2 {
		want = append(want, api.Field{Name: params[i], Value: params[i+1]})
	}
	got, l, p, ok := x.Find(path)
	if got != n || !slices.Equal(l, want) || p != pattern || !ok {
		t.Errorf("Find(%.80q): %d, %.80q, %.80q, %v, want %d, %.80q, %.80q", path, got, l, p, ok, n, want, pattern)
	}
}

// findsNot says whether no pattern fits a path, and nothing stands beside the false.
func findsNot(t *testing.T, x *Trie[int], path ...string) {
	t.Helper()
	if n, l, p, ok := x.Find(path); n != 0 || len(l) > 0 || p != "" || ok {
		t.Errorf("Find(%.80q): %d, %.80q, %.80q, %v", path, n, l, p, ok)
	}
}

// P12.1, P12.2: the chapter's examples.
func TestExample(t *testing.T) {
	l := []string{"/", "/a/:x", "/a/b", "/a/:x/c", "/*all"}
	x := New[int](10)
	adds(t, x, l...)
	finds(t, x, nil, 1, "/")
	finds(t, x, cut("a/b"), 3, "/a/b")
	finds(t, x, cut("a/z"), 2, "/a/:x", "x", "z")
	finds(t, x, cut("a/b/c"), 4, "/a/:x/c", "x", "b")
	finds(t, x, cut("a/b/d"), 5, "/*all", "all", "a/b/d")
	for pattern, want := range map[string]api.Errno{
		"/a/:y": api.ErrThere, "/a/:x/:x": api.ErrForm, "a": api.ErrForm, "/a//b": api.ErrForm, "/*all/b": api.ErrForm, "/a/": api.ErrForm,
	} {
		if err := x.Add(pattern, 9); err != want {
			t.Errorf("Add(%s): %d, want %d", pattern, err, want)
		}
	}
	stands(t, x, l...)
}

// rights are patterns, no two of which are twins.
func rights() []string {
	long := strings.Repeat("n", 32)
	return []string{
		"/", "/a", "/a/b", "/ab", "/A", "/a/a", "/a/a/a/a",
		"/:a", "/*b", "/:a/:b", "/:a/*b", "/:a/b/:c/d/*e", "/a/:b", "/a/*b", "/a/:b/c", "/:a/b",
		"/b/:x/:X/*xx", "/h/:X/*x", "/c/:" + long + "/*" + long[1:], "/d/:_", "/e/:0/:00/:_0", "/f/*9",
		// marks that do not stand first are like other bytes
		"/a:", "/a:b", "/a*", "/a*b", "/a:*/b*:", "/-:a/-*b", "/ :a",
		"/.", "/..", "/./../...", "/%2f", "/?", "/#", "/a?b=c", "/ ", "/\x00", "/\xff", "/\\", "/\r\n", "/\xc3\xa9/b",
		"/" + strings.Repeat("l", 100000), strings.Repeat("/l", 5000),
	}
}

// wrongs are texts that are no patterns.
func wrongs() []string {
	long := strings.Repeat("n", 33)
	return []string{
		"", "a", "a/b", ":a", "*", "*a", " /a", "\\", "\x00", ".",
		"//", "///", "//a", "/a/", "/a//", "/a//b", "/a/b/", "//:a", "/:a/", "/:a//b", "/*a/",
		"/:", "/*", "/a/:", "/a/*", "/:/a", "/*/a", "/::", "/:*", "/*:", "/**", "/::a", "/:*a", "/*:a", "/**a",
		"/:" + long, "/*" + long, "/:" + long + "/a",
		"/*a/b", "/*a/:b", "/*a/*b", "/a/*b/c", "/*a//",
		"/:a/:a", "/:a/*a", "/:a/b/:a", "/:a/b/c/*a", "/:a/:b/:c/:b", "/:A/:A", "/:aB/*aB", "/:" + long[1:] + "/:" + long[1:],
		"/:a-", "/:-a", "/:a.b", "/:a b", "/: a", "/:a ", "/:a:b", "/:a*", "/*a*", "/:a\x00", "/:\xc3\xa9", "/:a\xff", "/a/*b?", "/:{a}",
	}
}

// P12.1: which texts are patterns; all others are refused.
func TestRight(t *testing.T) {
	x := New[int](1000)
	for _, pattern := range rights() {
		if !Right(pattern) {
			t.Errorf("Right(%.80q): false", pattern)
		}
	}
	adds(t, x, rights()...)
	for _, pattern := range wrongs() {
		if Right(pattern) {
			t.Errorf("Right(%.80q): true", pattern)
		}
		if err := x.Add(pattern, 99); err != api.ErrForm {
			t.Errorf("Add(%.80q): %d", pattern, err)
		}
		if err := x.Set(pattern, 99); err != api.ErrForm {
			t.Errorf("Set(%.80q): %d", pattern, err)
		}
		if n, ok := x.Get(pattern); n != 0 || ok {
			t.Errorf("Get(%.80q): %d, %v", pattern, n, ok)
		}
	}
	stands(t, x, rights()...)
}

// P12.1: whatever byte stands wherever in a name or in a literal.
func TestRightBytes(t *testing.T) {
	const names = "ABCDEFGHIJKLMNOPQRSTUVWXYZabcdefghijklmnopqrstuvwxyz0123456789_"
	for b := range 256 {
		s := string([]byte{byte(b)})
		inName := strings.Contains(names, s)
		for _, mark := range []string{":", "*"} {
			for _, name := range []string{s, s + "a", "a" + s, "a" + s + "a", strings.Repeat("a", 31) + s} {
				// what stands behind a slash is another segment; behind the rest there may be none, and an empty one nowhere
				want := inName || s == "/" && mark == ":" && name[0] != '/' && name[len(name)-1] != '/'
				if got := Right("/b/" + mark + name); got != want {
					t.Errorf("Right of the name %q: %v", mark+name, got)
				}
			}
			if Right("/" + mark + strings.Repeat("a", 32) + s) {
				t.Errorf("Right of a name of 33 with %q: true", s)
			}
		}
		first := s != "/" && s != ":" && s != "*"
		if got := Right("/" + s); got != first {
			t.Errorf("Right(%q): %v", "/"+s, got)
		}
		if got := Right("/a" + s); got != (s != "/") {
			t.Errorf("Right(%q): %v", "/a"+s, got)
		}
		if !Right("/a" + s + "a") {
			t.Errorf("Right(%q): false", "/a"+s+"a")
		}
		if got := Right(s); got != (s == "/") {
			t.Errorf("Right(%q): %v", s, got)
		}
	}
}

// P12.1: a name has from 1 to 32 bytes.
func TestRightNames(t *testing.T) {
	for n := range 70 {
		name, want := strings.Repeat("n", n), n >= 1 && n <= 32
		for _, pattern := range []string{"/:" + name, "/*" + name, "/a/:" + name + "/b", "/a/*" + name} {
			if Right(pattern) != want {
				t.Errorf("Right(%q): %v", pattern, !want)
			}
		}
	}
}

// P12.1: names that are not just the same are not alike; many of them may be.
func TestRightManyNames(t *testing.T) {
	pattern := ""
	for i := range 5000 {
		pattern += fmt.Sprintf("/:n%d", i)
	}
	for _, end := range []string{"", "/:N1", "/*n5000", "/n1", "/:n01"} {
		if !Right(pattern + end) {
			t.Errorf("Right of many names and %q: false", end)
		}
	}
	for _, end := range []string{"/:n0", "/*n0", "/:n4999", "/*n2500"} {
		if Right(pattern + end) {
			t.Errorf("Right of many names and %q: true", end)
		}
	}
}

// P12.1: as many patterns as may be are added, one more is not.
func TestFull(t *testing.T) {
	for _, max := range []int{math.MinInt, -1, 0, 1, 2, 3, 7} {
		x := New[int](max)
		var l []string
		for i := range max {
			stands(t, x, l...)
			l = append(l, fmt.Sprintf("/a/%d", i))
			if err := x.Add(l[i], i+1); err != api.OK {
				t.Errorf("Add, the pattern %d of %d: %d", i, max, err)
			}
		}
		for _, pattern := range []string{"/", "/b", "/:b", "/*b", "/a", "/a/:b", "/a/0/b", "/a/0/*b"} {
			if err := x.Add(pattern, 99); err != api.ErrFull {
				t.Errorf("Add(%s) to %d: %d", pattern, max, err)
			}
			if err := x.Set(pattern, 99); err != api.ErrNone {
				t.Errorf("Set(%s) of %d: %d", pattern, max, err)
			}
		}
		stands(t, x, l...)
		for _, path := range []string{"", "b", "a", "a/z", "a/0/b"} {
			findsNot(t, x, cut(path)...)
		}
		for i, pattern := range l {
			finds(t, x, cut(pattern[1:]), i+1, pattern)
		}
	}
	x := New[int](math.MaxInt)
	adds(t, x, rights()...)
	stands(t, x, rights()...)
}

// P12.1: of several errors that one which is named first.
func TestAddErrors(t *testing.T) {
	var none *Trie[int]
	full := made(t, "/a/:b")
	for _, c := range []struct {
		x       *Trie[int]
		pattern string
		want    api.Errno
	}{
		{none, "a", api.ErrNil}, {none, "/a", api.ErrNil},
		{full, "a", api.ErrForm}, {full, "/a/:b/", api.ErrForm},
		{full, "/a/:b", api.ErrThere}, {full, "/a/:c", api.ErrThere},
		{full, "/a/b", api.ErrFull}, {full, "/a", api.ErrFull},
	} {
		if err := c.x.Add(c.pattern, 9); err != c.want {
			t.Errorf("Add(%s): %d, want %d", c.pattern, err, c.want)
		}
	}
	stands(t, full, "/a/:b")
}

// P12.1: twins have as many segments, of the same kinds, with the same literals, whatever their names.
func TestTwins(t *testing.T) {
	groups := [][]string{
		{"/"},
		{"/a"}, {"/A"}, {"/aa"}, {"/a/a"}, {"/x"},
		{"/:a", "/:b", "/:A", "/:a1"}, {"/*a", "/*b"},
		{"/a/:x", "/a/:y"}, {"/b/:x", "/b/:y"}, {"/a/*x", "/a/*y"}, {"/:x/a", "/:y/a"},
		{"/:x/:y", "/:y/:x", "/:a/:b", "/:x/:z"}, {"/:x/*y", "/:y/*x"}, {"/:x/y"}, {"/x/:y", "/x/:x"},
		{"/:x/:y/:z", "/:z/:x/:y"}, {"/:x/:y/z"}, {"/a/:x/*y", "/a/:y/*x"},
	}
	for i, group := range groups {
		for _, first := range group {
			x := New[int](100)
			adds(t, x, first)
			for j, others := range groups {
				for k, other := range others {
					want := api.ErrThere // first is its twin, or one of its own group that came ahead
					if i != j && k == 0 {
						want = api.OK
					}
					if err := x.Add(other, 100); err != want {
						t.Errorf("Add(%s) behind %s: %d, want %d", other, first, err, want)
					}
				}
			}
			if n, ok := x.Get(first); n != 1 || !ok {
				t.Errorf("Get(%s): %d, %v", first, n, ok)
			}
			if x.Len() != len(groups) {
				t.Errorf("%d patterns, want %d", x.Len(), len(groups))
			}
		}
	}
}

// P12.1: only just the pattern that is there is set and got, not its twin, not what stands on the way to it.
func TestSetGet(t *testing.T) {
	x := New[int](10)
	adds(t, x, "/a/b/c", "/a/:x", "/a/:x/:y/*z", "/*all")
	for _, pattern := range []string{"/", "/a", "/a/b", "/a/b/c/d", "/b", "/a/:y", "/a/:X", "/a/:x/:y", "/a/:y/:x/*z", "/a/:x/:y/*Z", "/a/:x/:y/:z", "/*a", "/:all", "/a/*x", "/a/x"} {
		if err := x.Set(pattern, 99); err != api.ErrNone {
			t.Errorf("Set(%s): %d", pattern, err)
		}
		if n, ok := x.Get(pattern); n != 0 || ok {
			t.Errorf("Get(%s): %d, %v", pattern, n, ok)
		}
	}
	stands(t, x, "/a/b/c", "/a/:x", "/a/:x/:y/*z", "/*all")
	for i, pattern := range x.All() {
		for _, n := range []int{-5, 0, 7, 10 + i} {
			if err := x.Set(pattern, n); err != api.OK {
				t.Errorf("Set(%s): %d", pattern, err)
			}
			if got, ok := x.Get(pattern); got != n || !ok {
				t.Errorf("Get(%s): %d, %v, want %d", pattern, got, ok, n)
			}
		}
	}
	finds(t, x, cut("a/b/c"), 10, "/a/b/c")
	finds(t, x, cut("a/b"), 11, "/a/:x", "x", "b")
	finds(t, x, cut("a/b/d/e"), 12, "/a/:x/:y/*z", "x", "b", "y", "d", "z", "e")
	finds(t, x, cut("b"), 13, "/*all", "all", "b")
	if x.Len() != 4 {
		t.Error("Set adds", x.All())
	}
}

// P12.2: / fits no segments, and nothing else does.
func TestFindNone(t *testing.T) {
	x := made(t, "/:a", "/*b", "/a")
	findsNot(t, x)
	findsNot(t, made(t, "/"), "")
	findsNot(t, made(t, "/"), "/")
	findsNot(t, made(t, "/"), "a")
	finds(t, made(t, "/"), []string{}, 1, "/")
	findsNot(t, New[int](5))
	findsNot(t, New[int](5), "a")
}

// P12.2: what fits a segment of each kind.
func TestFindKinds(t *testing.T) {
	literal, param, rest := made(t, "/a:b/c"), made(t, "/:p"), made(t, "/*r")
	finds(t, literal, []string{"a:b", "c"}, 1, "/a:b/c")
	for _, l := range [][]string{{"a:b"}, {"c"}, {"a:b/c"}, {"a:b", "c", ""}, {"", "a:b", "c"}, {"a:b", "", "c"}, {"a:b", "c", "d"}, {"A:b", "c"}, {"a:b", "C"}, {"a:", "c"}, {"a:bb", "c"}, {"a:b", "cc"}, {"a:b ", "c"}, {"a:b", ""}} {
		findsNot(t, literal, l...)
	}
	for _, s := range []string{"a", ":p", ":", "*r", "*", "/", "a/b", " ", "\x00", "\xff", ".", "..", "%2f", strings.Repeat("s", 1<<20)} {
		finds(t, param, []string{s}, 1, "/:p", "p", s)
		finds(t, rest, []string{s}, 1, "/*r", "r", s)
		finds(t, rest, []string{s, s}, 1, "/*r", "r", s+"/"+s)
		findsNot(t, param, s, s)
		findsNot(t, param, s, "")
		findsNot(t, param, "", s)
	}
	findsNot(t, param)
	findsNot(t, rest)
	// the rest takes empty segments, too, and alone; a parameter takes none
	findsNot(t, param, "")
	finds(t, rest, []string{""}, 1, "/*r", "r", "")
	finds(t, rest, []string{"", ""}, 1, "/*r", "r", "/")
	finds(t, rest, []string{"", "a", ""}, 1, "/*r", "r", "/a/")
}

// P12.2: a mark in a path is a byte like any other.
func TestFindMarks(t *testing.T) {
	x := made(t, "/:a", "/a/:b", "/c/*d")
	finds(t, x, []string{":a"}, 1, "/:a", "a", ":a")
	finds(t, x, []string{"a", ":b"}, 2, "/a/:b", "b", ":b")
	finds(t, x, []string{"c", "*d"}, 3, "/c/*d", "d", "*d")
	finds(t, x, []string{"*d"}, 1, "/:a", "a", "*d")
	findsNot(t, x, ":a", "b")
	findsNot(t, x, "a/b", "c")
}

// P12.2: fields stand in the order of the segments.
func TestFindParams(t *testing.T) {
	x := made(t, "/:z/:y/l/:x/*a")
	finds(t, x, cut("1/2/l/3/4"), 1, "/:z/:y/l/:x/*a", "z", "1", "y", "2", "x", "3", "a", "4")
	finds(t, x, cut("1/1/l/1/4/5//6/"), 1, "/:z/:y/l/:x/*a", "z", "1", "y", "1", "x", "1", "a", "4/5//6/")
	for _, path := range []string{"1/2/l/3", "1/2/l", "1/2/m/3/4", "1//l/3/4", "/2/l/3/4", "1/2/l//4"} {
		findsNot(t, x, cut(path)...)
	}
	// literals have none
	if _, l, _, _ := made(t, "/a/b").Find([]string{"a", "b"}); len(l) > 0 {
		t.Error(l)
	}
}

// P12.2: the first segment that is of unlike kinds tells which is better, though what follows speaks for the other.
func TestFindBetter(t *testing.T) {
	for _, c := range []struct {
		path   string
		rising []string // the patterns that fit, the best one last
	}{
		{"a", []string{"/*r", "/:p", "/a"}},
		{"a/b", []string{"/*r", "/:p/*r", "/:p/:q", "/:p/b", "/a/*r", "/a/:q", "/a/b"}},
		{"a/b/c", []string{"/*r", "/:p/*r", "/:p/:q/*r", "/:p/:q/:s", "/:p/:q/c", "/:p/b/*r", "/:p/b/:s", "/:p/b/c", "/a/*r", "/a/:q/*r", "/a/:q/:s", "/a/:q/c", "/a/b/*r", "/a/b/:s", "/a/b/c"}},
		{"a/", []string{"/*r", "/:p/*r", "/a/*r"}},
		{"/b", []string{"/*r"}},
	} {
		for i, better := range c.rising {
			for _, worse := range c.rising[:i] {
				for _, l := range [][]string{{better, worse}, {worse, better}} {
					if _, _, got, ok := made(t, l...).Find(cut(c.path)); got != better || !ok {
						t.Errorf("Find(%s) in %q: %q, %v", c.path, l, got, ok)
					}
				}
			}
			if _, _, got, ok := made(t, c.rising[:i+1]...).Find(cut(c.path)); got != better || !ok {
				t.Errorf("Find(%s) in %q: %q, %v", c.path, c.rising[:i+1], got, ok)
			}
		}
	}
}

// P12.2: a way that seemed better and leads nowhere is left again.
func TestFindBack(t *testing.T) {
	x := made(t, "/a/b/c/d", "/a/:x/c/e", "/:x/b/:y/f", "/*all", "/a/b/*g")
	finds(t, x, cut("a/b/c/d"), 1, "/a/b/c/d")
	finds(t, x, cut("a/b/c/e"), 5, "/a/b/*g", "g", "c/e")
	finds(t, x, cut("a/z/c/e"), 2, "/a/:x/c/e", "x", "z")
	finds(t, x, cut("a/z/c/f"), 4, "/*all", "all", "a/z/c/f")
	finds(t, x, cut("z/b/c/f"), 3, "/:x/b/:y/f", "x", "z", "y", "c")
	finds(t, x, cut("a/b"), 4, "/*all", "all", "a/b")
	finds(t, x, cut("a"), 4, "/*all", "all", "a")
	findsNot(t, x)
	y := made(t, "/a/b/c/d", "/a/:x/c/e", "/:x/b/:y/f")
	finds(t, y, cut("a/b/c/e"), 2, "/a/:x/c/e", "x", "b")
	finds(t, y, cut("a/b/c/f"), 3, "/:x/b/:y/f", "x", "a", "y", "c")
	findsNot(t, y, cut("a/b/c/g")...)
	findsNot(t, y, cut("a/b/c")...)
	findsNot(t, y, cut("a/b/c/d/e")...)
}

// P12.1, P12.2: of a nil trie there is nothing; one that New did not make takes none.
func TestNotMade(t *testing.T) {
	for name, x := range map[string]*Trie[int]{"nil": nil, "not made": {}} {
		stands(t, x)
		findsNot(t, x)
		findsNot(t, x, "a")
		adding, setting := api.ErrNil, api.ErrNil
		if x != nil {
			adding, setting = api.ErrFull, api.ErrNone
		}
		if err := x.Add("/a", 1); err != adding {
			t.Errorf("%s: Add: %d", name, err)
		}
		if err := x.Set("/a", 1); err != setting {
			t.Errorf("%s: Set: %d", name, err)
		}
		for _, pattern := range []string{"/a", "/", "", "a"} {
			if n, ok := x.Get(pattern); n != 0 || ok {
				t.Errorf("%s: Get(%q): %d, %v", name, pattern, n, ok)
			}
		}
		stands(t, x)
	}
}

// R4: what is answered is nobody else's, and what is handed in stays as it is.
func TestMemory(t *testing.T) {
	x := made(t, "/:a/*b", "/c")
	l := x.All()
	l[0], l[1] = "/z", "/y"
	_ = append(l[:1], "/w")
	stands(t, x, "/:a/*b", "/c")
	room := []string{"1", "2", "3", "spare"}
	path := room[:3]
	_, params, _, _ := x.Find(path)
	params[0], params[1] = api.Field{}, api.Field{}
	_ = append(params, api.Field{Name: "d"})
	if !slices.Equal(room, []string{"1", "2", "3", "spare"}) {
		t.Error("the path was changed:", room)
	}
	finds(t, x, path, 1, "/:a/*b", "a", "1", "b", "2/3")
	_, params, _, _ = x.Find(path)
	path[0], path[1] = "8", "9"
	if !slices.Equal(params, []api.Field{{Name: "a", Value: "1"}, {Name: "b", Value: "2/3"}}) {
		t.Error("what was answered changed:", params)
	}
}

// R3: tries know nothing of one another.
func TestApart(t *testing.T) {
	x, y := made(t, "/a", "/:b"), made(t, "/:c")
	x.Set("/a", 7)
	finds(t, x, cut("a"), 7, "/a")
	finds(t, y, cut("a"), 1, "/:c", "c", "a")
	stands(t, y, "/:c")
}

// What patterns have may be of any type.
func TestTypes(t *testing.T) {
	n := 7
	pointers := New[*int](2)
	pointers.Add("/a", &n)
	pointers.Add("/b", nil)
	if x, ok := pointers.Get("/a"); x != &n || !ok {
		t.Error("pointer", x, ok)
	}
	if x, _, _, ok := pointers.Find([]string{"b"}); x != nil || !ok {
		t.Error("a nil that was added", x, ok)
	}
	if x, _, _, ok := pointers.Find([]string{"c"}); x != nil || ok {
		t.Error("pointer of none", x, ok)
	}
	functions := New[func() int](1)
	functions.Add("/", func() int { return n })
	if f, _, _, ok := functions.Find(nil); !ok || f() != 7 {
		t.Error("function")
	}
	maps := New[map[string]int](1)
	maps.Add("/", map[string]int{"a": 1})
	if m, ok := maps.Get("/"); !ok || m["a"] != 1 {
		t.Error("map", m, ok)
	}
	arrays := New[[3]string](1)
	arrays.Add("/:a", [3]string{"x", "y", "z"})
	if a, _, _, ok := arrays.Find([]string{"q"}); !ok || a != [3]string{"x", "y", "z"} {
		t.Error("array", a, ok)
	}
	if a, ok := arrays.Get("/:b"); ok || a != [3]string{} {
		t.Error("array of none", a, ok)
	}
}

// plainFits says plainly whether a pattern's segments fit a path's, and what its parameters and its rest stand for.
func plainFits(pattern, path []string) (l []api.Field, ok bool) {
	if len(pattern) == 0 {
		return nil, len(path) == 0
	}
	if len(path) == 0 {
		return nil, false
	}
	var first []api.Field
	switch pattern[0][0] {
	case '*':
		return []api.Field{{Name: pattern[0][1:], Value: strings.Join(path, "/")}}, true
	case ':':
		if path[0] == "" {
			return nil, false
		}
		first = []api.Field{{Name: pattern[0][1:], Value: path[0]}}
	default:
		if pattern[0] != path[0] {
			return nil, false
		}
	}
	l, ok = plainFits(pattern[1:], path[1:])
	return append(first, l...), ok
}

// rank is how good a segment's kind is; a greater one is better.
func rank(segment string) int {
	switch segment[0] {
	case '*':
		return 1
	case ':':
		return 2
	}
	return 3
}

// plainBetter says plainly whether of two patterns that fit a is better than b.
func plainBetter(a, b []string) bool {
	for i := range min(len(a), len(b)) {
		if rank(a[i]) != rank(b[i]) {
			return rank(a[i]) > rank(b[i])
		}
	}
	return false
}

// plainFind says plainly what is to be found.
func plainFind(l []string, path []string) (n int, params []api.Field, pattern string, ok bool) {
	for i, p := range l {
		fields, fits := plainFits(cut(p[1:]), path)
		if fits && (!ok || plainBetter(cut(p[1:]), cut(pattern[1:]))) {
			n, params, pattern, ok = i+1, fields, p, true
		}
	}
	return n, params, pattern, ok
}

// shape is a pattern without its names; those of twins are the same.
func shape(pattern string) string {
	l := cut(pattern[1:])
	for i, s := range l {
		if s[0] == ':' || s[0] == '*' {
			l[i] = s[:1]
		}
	}
	return "/" + strings.Join(l, "/")
}

// drawn is a pattern of few literals and names.
func drawn(r *rand.Rand) string {
	l := []string{}
	for i := range r.Intn(6) {
		switch r.Intn(5) {
		case 0, 1:
			l = append(l, ":"+string("pq"[r.Intn(2)])+string("012345"[i]))
		case 2:
			if r.Intn(2) == 0 {
				return "/" + strings.Join(append(l, "*r"+string("012345"[i])), "/")
			}
			fallthrough
		default:
			l = append(l, string("abc"[r.Intn(3)]))
		}
	}
	return "/" + strings.Join(l, "/")
}

// drawnPath is a path of segments that may stand in such patterns, and some that may not.
func drawnPath(r *rand.Rand) []string {
	l := []string{}
	for range r.Intn(7) {
		s := string("aaabbbcccz:*"[r.Intn(12)])
		if r.Intn(12) == 0 {
			s = ""
		}
		l = append(l, s)
	}
	return l
}

// drawnList are some of such patterns, no two of which are twins.
func drawnList(r *rand.Rand, n int) []string {
	var l, shapes []string
	for range n {
		p := drawn(r)
		if s := shape(p); !slices.Contains(shapes, s) {
			l, shapes = append(l, p), append(shapes, s)
		}
	}
	return l
}

// P12.2: whatever patterns and paths are drawn, what is found is what all patterns held against each other say.
func TestAgainstPlain(t *testing.T) {
	r := rand.New(rand.NewSource(12))
	found, lost, back := 0, 0, 0
	for range 3000 {
		l := drawnList(r, 1+r.Intn(40))
		x := made(t, l...)
		stands(t, x, l...)
		for range 20 {
			path := drawnPath(r)
			n, params, pattern, ok := plainFind(l, path)
			if !ok {
				lost++
				findsNot(t, x, path...)
				continue
			}
			found++
			if strings.ContainsAny(pattern, ":*") {
				back++
			}
			var flat []string
			for _, f := range params {
				flat = append(flat, f.Name, f.Value)
			}
			finds(t, x, path, n, pattern, flat...)
		}
	}
	if found < 5000 || lost < 5000 || back < 5000 {
		t.Error("too few of a kind were drawn:", found, lost, back)
	}
}

// P12.3: what is found does not hang on the order in which patterns were added, nor on what was refused on the way.
func TestOrder(t *testing.T) {
	r := rand.New(rand.NewSource(13))
	for range 500 {
		l := drawnList(r, 1+r.Intn(30))
		x := New[string](len(l))
		for _, p := range l {
			x.Add(p, p)
		}
		y := New[string](len(l))
		for _, i := range r.Perm(len(l)) {
			y.Add(l[i]+"/", "wrong")
			if err := y.Add(l[i], l[i]); err != api.OK {
				t.Fatalf("Add(%s): %d", l[i], err)
			}
			if err := y.Add(l[i], "twin"); err != api.ErrThere {
				t.Fatalf("Add(%s) again: %d", l[i], err)
			}
		}
		for range 5 {
			y.Add(drawn(r), "one too many")
		}
		for range 50 {
			path := drawnPath(r)
			a, b, c, d := x.Find(path)
			e, f, g, h := y.Find(path)
			if a != e || !slices.Equal(b, f) || c != g || d != h || a != c {
				t.Errorf("Find(%q) in %q: %q, %q, %q, %v; in another order %q, %q, %q, %v", path, l, a, b, c, d, e, f, g, h)
			}
		}
	}
}

// P12.3: all orders of a few patterns.
func TestAllOrders(t *testing.T) {
	l := []string{"/a/*r", "/:p/b", "/a/:q", "/*s", "/:p/:q/c", "/a/b"}
	want := map[string]string{"a/b": "/a/b", "a/z": "/a/:q", "z/b": "/:p/b", "z/z": "/*s", "a/b/c": "/a/*r", "z/b/c": "/:p/:q/c", "a": "/*s", "a/": "/a/*r"}
	var orders func(ahead, left []string)
	orders = func(ahead, left []string) {
		if len(left) == 0 {
			x := made(t, ahead...)
			stands(t, x, ahead...)
			for path, pattern := range want {
				if _, _, got, ok := x.Find(cut(path)); got != pattern || !ok {
					t.Errorf("Find(%s) in %q: %q, %v", path, ahead, got, ok)
				}
			}
			return
		}
		for i, p := range left {
			orders(append(slices.Clone(ahead), p), slices.Delete(slices.Clone(left), i, i+1))
		}
	}
	orders(nil, l)
}

// P12.3: a pattern that is added changes what is found only for paths that it fits.
func TestAddedChanges(t *testing.T) {
	r := rand.New(rand.NewSource(14))
	changed := 0
	for range 500 {
		l := drawnList(r, 20)
		x := New[string](len(l))
		var paths [][]string
		for range 30 {
			paths = append(paths, drawnPath(r))
		}
		for _, p := range l {
			var ahead []string
			for _, path := range paths {
				got, _, _, _ := x.Find(path)
				ahead = append(ahead, got)
			}
			x.Add(p, p)
			for i, path := range paths {
				got, _, _, _ := x.Find(path)
				_, fits := plainFits(cut(p[1:]), path)
				if got != ahead[i] {
					changed++
				}
				if got != ahead[i] && (!fits || got != p) {
					t.Errorf("Find(%q) was %q, and is %q behind Add(%s)", path, ahead[i], got, p)
				}
			}
		}
	}
	if changed < 1000 {
		t.Error("too few changed:", changed)
	}
}

// R1: very long patterns and paths come to an end.
func TestLong(t *testing.T) {
	const n = 1 << 18
	segments := make([]string, n)
	for i := range segments {
		segments[i] = "a"
	}
	x := made(t, strings.Repeat("/a", n), strings.Repeat("/a", n-1)+"/*r", "/*s")
	finds(t, x, segments, 1, strings.Repeat("/a", n))
	finds(t, x, append(slices.Clone(segments[1:]), "b"), 2, strings.Repeat("/a", n-1)+"/*r", "r", "b")
	finds(t, x, segments[1:], 3, "/*s", "s", strings.Repeat("a/", n-2)+"a")
	if Right(strings.Repeat("/", n)) || Right(strings.Repeat("/:a", n)) || Right(strings.Repeat("/a", n)+"/") {
		t.Error("Right of a long one")
	}
}

// R1: there are soon no more ways to try than nodes, though at each segment there are two.
func TestManyWays(t *testing.T) {
	const deep = 12
	x := New[int](1 << deep)
	for i := range 1 << deep {
		p := ""
		for j := range deep {
			if i>>j&1 == 0 {
				p += "/a"
			} else {
				p += fmt.Sprintf("/:n%d", j)
			}
		}
		if err := x.Add(p+"/end", i); err != api.OK {
			t.Fatal("Add", p, err)
		}
	}
	path := cut(strings.Repeat("a/", deep) + "end")
	finds(t, x, path, 0, strings.Repeat("/a", deep)+"/end")
	path[deep] = "other"
	findsNot(t, x, path...)
	path[0] = "b"
	findsNot(t, x, path...)
}
