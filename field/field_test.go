package field

import (
	"math/rand"
	"slices"
	"strings"
	"testing"

	"crier/api"
)

// tokens are all of a token's characters, in order.
const tokens = "!#$%&'*+-.0123456789ABCDEFGHIJKLMNOPQRSTUVWXYZ^_`abcdefghijklmnopqrstuvwxyz|~"

// values are all of a value's characters, in order.
func values() string {
	l := []byte{9}
	for b := 0x20; b <= 0x7e; b++ {
		l = append(l, byte(b))
	}
	for b := 0x80; b <= 0xff; b++ {
		l = append(l, byte(b))
	}
	return string(l)
}

// one is the text of the byte b.
func one(b int) string { return string([]byte{byte(b)}) }

// has says whether the byte b stands in s.
func has(s string, b int) bool { return strings.IndexByte(s, byte(b)) >= 0 }

// parses says whether Parse of line is the field of name and value.
func parses(t *testing.T, line, name, value string) {
	t.Helper()
	if f, ok := Parse(line); !ok || f != (api.Field{Name: name, Value: value}) {
		t.Errorf("Parse(%q): %q, %q, %v, want %q, %q", line, f.Name, f.Value, ok, name, value)
	}
}

// parsesNot says whether line is none's.
func parsesNot(t *testing.T, line string) {
	t.Helper()
	if f, ok := Parse(line); ok || f != (api.Field{}) {
		t.Errorf("Parse(%q): %q, %q, %v", line, f.Name, f.Value, ok)
	}
}

// parts says whether Each of value, and Each once more, are these.
func parts(t *testing.T, value string, want ...string) {
	t.Helper()
	each := Each(value)
	for range 2 {
		if got := slices.Collect(each); !slices.Equal(got, want) {
			t.Errorf("Each(%q): %q, want %q", value, got, want)
		}
	}
}

// P6.1, P6.2: the chapter's examples.
func TestExamples(t *testing.T) {
	parses(t, "Host: a b ", "Host", "a b")
	parsesNot(t, "Host : a")
	parsesNot(t, ": a")
	parses(t, "X:", "X", "")
	parts(t, "a, ,b,, C ", "a", "b", "C")
	if !Has("keep-alive, Upgrade", "upgrade") {
		t.Error("Has(keep-alive, Upgrade; upgrade)")
	}
	if Has("upgraded", "upgrade") {
		t.Error("Has(upgraded; upgrade)")
	}
	l := []api.Field{{Name: "Host", Value: "x"}, {Name: "HOST", Value: "y"}}
	if value, many := Get(l, "host"); value != "x" || many != 2 {
		t.Error("Get", value, many)
	}
}

// P6.1: a token is one or more of its characters, whatever byte stands wherever.
func TestToken(t *testing.T) {
	for _, s := range []string{"a", "Host", "Sec-WebSocket-Key", "GET", "0", "-", tokens, strings.Repeat("a", 1<<20)} {
		if !Token(s) {
			t.Errorf("Token(%.80q)", s)
		}
	}
	for _, s := range []string{"", " ", "a b", " a", "a ", "a\t", "a:", ":", "a,b", "a\r\n", "\xc3\xa9", "a/b", "(a)", "\x00", strings.Repeat("a", 1<<20) + "\n"} {
		if Token(s) {
			t.Errorf("Token(%.80q)", s)
		}
	}
	for b := range 256 {
		for _, s := range []string{one(b), one(b) + "a", "a" + one(b), "a" + one(b) + "a"} {
			if Token(s) != has(tokens, b) {
				t.Errorf("Token(%q): %v", s, Token(s))
			}
		}
	}
}

// P6.1: a line's name and value.
func TestParse(t *testing.T) {
	for _, c := range []struct{ line, name, value string }{
		{"a:b", "a", "b"},
		{"a: b", "a", "b"},
		{"a:b ", "a", "b"},
		{"a:\tb\t", "a", "b"},
		{"a: \t \t b c\td \t \t", "a", "b c\td"},
		{"a:", "a", ""},
		{"a: ", "a", ""},
		{"a:\t", "a", ""},
		{"a: \t \t", "a", ""},
		{"a::", "a", ":"},
		{"a:b:c", "a", "b:c"},
		{"a: :b", "a", ":b"},
		{"Host:localhost:80", "Host", "localhost:80"},
		{"X-A: a, b ,,c", "X-A", "a, b ,,c"},
		{"hOsT: AbC", "hOsT", "AbC"},
		{tokens + ": a", tokens, "a"},
		{"a:\xff", "a", "\xff"},
		{"a: \x80 ", "a", "\x80"},
		// what is blank to others than this chapter is a value
		{"a:\u00a0b\u2003", "a", "\u00a0b\u2003"},
		{"a:\u0085b\u0085", "a", "\u0085b\u0085"},
		{"a: \x85\xa0 ", "a", "\x85\xa0"},
	} {
		parses(t, c.line, c.name, c.value)
	}
}

// P6.1: what is no field's line.
func TestParseWrong(t *testing.T) {
	for _, line := range []string{
		"", "a", "Host", "Host x", ":", "::", ":a", ": ", " :", "\t:a", " a:b", "\ta: b", "a :b", "a\t:b", "a b:c", "a,b:c", "a\x00:b",
		"a:b\r\n", "a:b\r", "a:b\n", "\na:b", "a:b\r\n c", "a:\r", "a:\n", "a:\nb: c", "\xc3\xa9:a", "a:\x00", "a:b\x00", "a: \x7f", "a:\x1fb", "a:\x0b", "a:\x0cb",
	} {
		parsesNot(t, line)
	}
}

// P6.1: whatever byte stands wherever in the name.
func TestParseNames(t *testing.T) {
	for b := range 256 {
		for _, name := range []string{one(b), one(b) + "a", "a" + one(b), "a" + one(b) + "a"} {
			switch {
			case has(tokens, b):
				parses(t, name+": x", name, "x")
			case b == ':' && name[0] == 'a':
				parses(t, name+": x", "a", strings.Trim(name[2:]+": x", " "))
			default:
				parsesNot(t, name+": x")
			}
		}
	}
}

// P6.1: whatever byte stands wherever in the value; blanks count within it alone.
func TestParseValues(t *testing.T) {
	for b := range 256 {
		for _, value := range []string{one(b), one(b) + "x", "x" + one(b), "x" + one(b) + "y"} {
			if !has(values(), b) {
				parsesNot(t, "a:"+value)
				parsesNot(t, "a: "+value+" ")
				continue
			}
			want := value
			if (b == 9 || b == 0x20) && value != "x"+one(b)+"y" {
				want = strings.ReplaceAll(value, one(b), "")
			}
			parses(t, "a:"+value, "a", want)
			parses(t, "a: "+value+"\t", "a", want)
		}
	}
	parses(t, "a: "+values()+"\t", "a", values()[2:]) // the first two are blanks
}

// P6.1: two words are alike, if they are the same but for small and great letters; of all bytes, and wherever.
func TestAlike(t *testing.T) {
	letters := "abcdefghijklmnopqrstuvwxyz"
	for a := range 256 {
		for b := range 256 {
			want := a == b || a-b == 32 && has(letters, a) || b-a == 32 && has(letters, b)
			for _, c := range [][2]string{{one(a), one(b)}, {"x" + one(a), "X" + one(b)}, {one(a) + "X", one(b) + "x"}} {
				if Alike(c[0], c[1]) != want {
					t.Errorf("Alike(%q, %q): %v", c[0], c[1], !want)
				}
			}
		}
	}
	for _, c := range []struct {
		a, b string
		want bool
	}{
		{"", "", true},
		{"Host", "hOST", true},
		{"Sec-WebSocket-Key", "sec-websocket-key", true},
		{letters, strings.ToUpper(letters), true},
		{"", "a", false},
		{"a", "", false},
		{"host", "hos", false},
		{"host", "hosts", false},
		{"host", "xhost", false},
		{"host", "hast", false},
		{" host", "host", false},
		{"host", "host ", false},
		{"a\x00", "a", false},
		{"\u00e9", "\u00c9", false},
		{"\u212a", "k", false},
		{"\u017f", "s", false},
		{"\u212aaa", "kaaaa", false},
		{"\u00e9A", "\u00e9a", true},
		{"\xff\xfeA", "\xff\xfea", true},
		{"\xff", "\xfe", false},
		{"\xff", "\ufffd", false},
	} {
		if Alike(c.a, c.b) != c.want || Alike(c.b, c.a) != c.want {
			t.Errorf("Alike(%q, %q): %v", c.a, c.b, !c.want)
		}
	}
}

// P6.2: a value's parts, in order.
func TestEach(t *testing.T) {
	for _, c := range []struct {
		value string
		want  []string
	}{
		{"", nil},
		{" ", nil},
		{"\t \t", nil},
		{",", nil},
		{",,,", nil},
		{" , \t,\t", nil},
		{"a", []string{"a"}},
		{" a ", []string{"a"}},
		{"\t a\t ", []string{"a"}},
		{"a,b", []string{"a", "b"}},
		{"b,a", []string{"b", "a"}},
		{"a,a", []string{"a", "a"}},
		{"a,A,a", []string{"a", "A", "a"}},
		{",a", []string{"a"}},
		{"a,", []string{"a"}},
		{",,a,,b,,", []string{"a", "b"}},
		{" a b ,c\td ", []string{"a b", "c\td"}},
		{"a;b:c", []string{"a;b:c"}},
		{"\"a,b\"", []string{"\"a", "b\""}},
		{"\x0b,\x0c\r\n,\x00", []string{"\x0b", "\x0c\r\n", "\x00"}},
		{"\u00a0, \u0085 ,\u2003", []string{"\u00a0", "\u0085", "\u2003"}},
		{"\xff,\xa0 ,\x85", []string{"\xff", "\xa0", "\x85"}},
	} {
		parts(t, c.value, c.want...)
	}
	for b := range 256 {
		s := one(b)
		switch b {
		case ',':
			parts(t, "x"+s+"y", "x", "y")
			parts(t, s+"x"+s, "x")
		case 9, 0x20:
			parts(t, "x"+s+"y", "x"+s+"y")
			parts(t, s+"x"+s+","+s, "x")
		default:
			parts(t, "x"+s+"y", "x"+s+"y")
			parts(t, s+"x"+s+","+s, s+"x"+s, s)
		}
	}
}

// P6.2: a walk over the parts may be left, and begun again.
func TestEachLeft(t *testing.T) {
	each := Each("a, ,b,,c")
	for n, want := range []string{"", "a", "ab", "abc", "abc"} {
		got := ""
		for part := range each {
			if len(got) == n {
				break
			}
			got += part
		}
		if got != want {
			t.Errorf("left behind %d: %q", n, got)
		}
	}
	told := 0
	each(func(string) bool { told++; return false })
	if told != 1 {
		t.Error("told", told, "parts where the first one is the last that is wanted")
	}
	got := ""
	for a := range each {
		for b := range each {
			got += a + b + " "
		}
	}
	if got != "aa ab ac ba bb bc ca cb cc " {
		t.Error("walks within walks:", got)
	}
}

// R1: the function that Each answers takes no function, too.
func TestEachOfNoFunction(t *testing.T) {
	for _, value := range []string{"", "a", "a,b"} {
		Each(value)(nil)
	}
}

// P6.2: whether a part is alike to a word.
func TestHas(t *testing.T) {
	for _, c := range []struct {
		value, word string
		want        bool
	}{
		{"close", "close", true},
		{"Close", "cLOSE", true},
		{"close, upgrade", "close", true},
		{"close, upgrade", "upgrade", true},
		{"a,b ,\tClose\t, d", "close", true},
		{",,close,,", "close", true},
		{"", "close", false},
		{"", "", false},
		{"a,,b", "", false},
		{" , ", "", false},
		{" , ", " ", false},
		{"close", "", false},
		{"close", "clos", false},
		{"clos", "close", false},
		{"closed, xclose", "close", false},
		{"close x", "close", false},
		{"close;x", "close", false},
		{"close", " close", false},
		{" close ", " close ", false},
		{"a, b", "a, b", false},
		{"a,b", "a,b", false},
		{"a b, c", "A B", true},
		{"\"close\"", "close", false},
		{"\u212aeep", "keep", false},
		{"\xff", "\xff", true},
	} {
		if Has(c.value, c.word) != c.want {
			t.Errorf("Has(%q, %q): %v", c.value, c.word, !c.want)
		}
	}
}

// P6.2: the first field of a name, and how many there are.
func TestGet(t *testing.T) {
	l := []api.Field{{Name: "A", Value: ""}, {Name: "b", Value: "1"}, {Name: "a", Value: "2"}, {Name: "B", Value: "3"}, {Name: "ab", Value: "4"}, {Name: "", Value: "5"}, {Name: "B", Value: ""}, {Name: "\u212a", Value: "6"}}
	before := slices.Clone(l)
	for _, c := range []struct {
		name, value string
		many        int
	}{
		{"a", "", 2}, {"A", "", 2}, {"b", "1", 3}, {"B", "1", 3}, {"ab", "4", 1}, {"AB", "4", 1}, {"", "5", 1},
		{"c", "", 0}, {"k", "", 0}, {"\u212a", "6", 1}, {" a", "", 0}, {"a ", "", 0}, {"aB,", "", 0}, {"abc", "", 0},
	} {
		if value, many := Get(l, c.name); value != c.value || many != c.many {
			t.Errorf("Get(%q): %q, %d, want %q, %d", c.name, value, many, c.value, c.many)
		}
	}
	if !slices.Equal(l, before) {
		t.Error("the fields were changed")
	}
	for _, none := range [][]api.Field{nil, {}} {
		for _, name := range []string{"", "a"} {
			if value, many := Get(none, name); value != "" || many != 0 {
				t.Errorf("Get(%q) of none: %q, %d", name, value, many)
			}
		}
	}
	if value, many := Get(slices.Repeat(l[1:2], 1000), "B"); value != "1" || many != 1000 {
		t.Error("of many:", value, many)
	}
}

// text is up to most of these bytes, drawn.
func text(r *rand.Rand, of string, most int) string {
	s := make([]byte, r.Intn(most+1))
	for i := range s {
		s[i] = of[r.Intn(len(of))]
	}
	return string(s)
}

// P6.3: a name, a colon, any blanks, a value without blanks at its ends, and any blanks, are a line of these.
func TestLines(t *testing.T) {
	r := rand.New(rand.NewSource(6))
	for range 20000 {
		name := text(r, tokens, 6) + one(int(tokens[r.Intn(len(tokens))]))
		value := text(r, values(), 5)
		if r.Intn(2) == 0 {
			value = text(r, "a \t,:\xff", 5)
		}
		if value != "" && (has("\t ", int(value[0])) || has("\t ", int(value[len(value)-1]))) {
			value = "x" + value + "y"
		}
		parses(t, name+":"+text(r, "\t ", 3)+value+text(r, "\t ", 3), name, value)
	}
}

// P6.3: the parts of a value, with commas between, have the same parts; with blanks around them and empty ones, too.
func TestPartsAgain(t *testing.T) {
	r := rand.New(rand.NewSource(7))
	for range 20000 {
		value := text(r, "aB \t,,\xff", 12)
		if r.Intn(4) == 0 {
			value = text(r, values()+",,,,,,,,", 12)
		}
		l := slices.Collect(Each(value))
		if slices.Contains(l, "") {
			t.Fatalf("an empty part of %q", value)
		}
		parts(t, strings.Join(l, ","), l...)
		parts(t, strings.Join(l, " ,, ,\t"), l...)
		if got, want := plain(strings.Join(l, ",")), plain(value); got != want {
			t.Fatalf("%q: %q, want %q", value, got, want)
		}
		for _, part := range l {
			if !Has(value, part) || !Has(strings.Join(l, ","), part) {
				t.Fatalf("Has(%q, %q)", value, part)
			}
		}
	}
}

// plain are a value's bytes, blanks and commas left out.
func plain(value string) string {
	return strings.NewReplacer(",", "", " ", "", "\t", "").Replace(value)
}

// R1: what is long comes to an end soon.
func TestLong(t *testing.T) {
	const many = 1 << 22
	commas := strings.Repeat(" ,", many)
	parts(t, commas)
	n := 0
	for range Each(strings.Repeat("a ,", many)) {
		n++
	}
	if n != many {
		t.Error("parts", n)
	}
	if Has(commas, "a") || !Has(commas+"a", "A") {
		t.Error("Has")
	}
	parses(t, "a:"+commas+"x"+strings.Repeat(" ", many), "a", strings.TrimLeft(commas+"x", " "))
	if !Alike(strings.Repeat("aB", many), strings.Repeat("Ab", many)) {
		t.Error("Alike")
	}
}
