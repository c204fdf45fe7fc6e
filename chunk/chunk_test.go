package chunk

import (
	"math/rand"
	"strconv"
	"strings"
	"testing"

	"crier/api"
	"crier/field"
)

// told is what a reader says of what it was fed.
type told struct {
	read int
	data string
	done bool
	bad  int
}

// lines is s with CR LF in the place of each |.
func lines(s string) string { return strings.ReplaceAll(s, "|", "\r\n") }

// one is the text of the byte b.
func one(b int) string { return string([]byte{byte(b)}) }

// fed is what a reader says that New made, and that is fed the pieces.
func fed(pieces ...string) told {
	r := New()
	read := 0
	for _, s := range pieces {
		read += r.Feed(s)
	}
	return told{read, r.Data(), r.Done(), r.Bad()}
}

// brief is a text that is short enough to be shown.
func brief(s string) string {
	if len(s) > 120 {
		return strconv.Quote(s[:80]) + ".." + strconv.Quote(s[len(s)-20:]) + " of " + strconv.Itoa(len(s))
	}
	return strconv.Quote(s)
}

// says says whether a reader that is fed s, at once, byte by byte, and in two pieces, says this.
func says(t *testing.T, s string, want told) {
	t.Helper()
	if got := fed(s); got != want {
		t.Errorf("%s: read %d, %s, %v, %d, want %d, %s, %v, %d", brief(s), got.read, brief(got.data), got.done, got.bad, want.read, brief(want.data), want.done, want.bad)
	}
	if got := fed(bytesOf(s)...); got != want {
		t.Errorf("%s, byte by byte: read %d, %s, %v, %d", brief(s), got.read, brief(got.data), got.done, got.bad)
	}
	for _, at := range []int{want.read - 1, want.read, want.read + 1, len(s) / 2} {
		if at < 0 || at > len(s) {
			continue
		}
		if got := fed(s[:at], "", s[at:]); got != want {
			t.Errorf("%s, cut at %d: read %d, %s, %v, %d", brief(s), at, got.read, brief(got.data), got.done, got.bad)
		}
	}
}

// bytesOf are the bytes of s, each one a piece.
func bytesOf(s string) []string {
	var l []string
	for i := range len(s) {
		l = append(l, s[i:i+1])
	}
	return l
}

// ends says whether all of s is read, and is a body of this text.
func ends(t *testing.T, s, data string) {
	t.Helper()
	says(t, s, told{len(s), data, true, 0})
}

// goesOn says whether all of s is read, and is the beginning of a body, of this text.
func goesOn(t *testing.T, s, data string) {
	t.Helper()
	says(t, s, told{len(s), data, false, 0})
}

// fails says whether s is wrong just at its last byte, with this text ahead of it.
func fails(t *testing.T, s, data string, bad int) {
	t.Helper()
	goesOn(t, s[:len(s)-1], data)
	says(t, s, told{len(s), data, false, bad})
	says(t, s+"0\r\n\r\n", told{len(s), data, false, bad})
}

// plain is what a reader should say of s, line by line.
func plain(s string) told {
	at, data := 0, ""
	for {
		line, n, bad := plainLine(s[at:], api.MaxHead)
		at += n
		if bad != 0 || line == nil {
			return told{at, data, false, bad}
		}
		size, ok := plainSize(*line)
		if !ok {
			return told{at, data, false, 400}
		}
		if size == 0 {
			n, done, bad := plainTrailers(s[at:])
			return told{at + n, data, done, bad}
		}
		if len(data)+size > api.MaxBody {
			return told{at, data, false, 413}
		}
		n = min(size, len(s)-at)
		data += s[at : at+n]
		at += n
		for _, b := range []byte("\r\n") {
			if at == len(s) {
				return told{at, data, false, 0}
			}
			at++
			if s[at-1] != b {
				return told{at, data, false, 400}
			}
		}
	}
}

// plainLine is the line that s begins with, and how many bytes were read; nil, if it has no end, or something is wrong.
func plainLine(s string, most int) (line *string, read, bad int) {
	i := strings.IndexAny(s, "\r\n")
	if i < 0 {
		i = len(s)
	}
	switch {
	case i > most || i == most && i < len(s) && s[i] == '\r':
		return nil, most + 1, 431
	case i == len(s):
		return nil, i, 0
	case s[i] == '\n':
		return nil, i + 1, 400
	case i+1 == len(s):
		return nil, i + 1, 0
	case s[i+1] != '\n':
		return nil, i + 2, 400
	}
	head := s[:i]
	return &head, i + 2, 0
}

// plainSize is the size that a chunk's head tells, no more than a bit above all that may be.
func plainSize(line string) (int, bool) {
	size, rest, _ := strings.Cut(line, ";")
	for i := range len(rest) {
		if rest[i] == 0x7f || rest[i] < 0x20 && rest[i] != '\t' {
			return 0, false
		}
	}
	if size == "" || len(size) > 8 || strings.Trim(size, "0123456789abcdefABCDEF") != "" {
		return 0, false
	}
	n, err := strconv.ParseUint(size, 16, 64)
	return int(n), err == nil
}

// plainTrailers reads trailers and the empty line.
func plainTrailers(s string) (read int, done bool, bad int) {
	long := len(s) > api.MaxHead
	if long {
		s = s[:api.MaxHead]
	}
	fields := 0
	for {
		line, n, bad := plainLine(s[read:], api.MaxHead+1)
		read += n
		switch {
		case bad != 0:
			return read, false, bad
		case line == nil && long:
			return api.MaxHead + 1, false, 431
		case line == nil:
			return read, false, 0
		case *line == "":
			return read, true, 0
		}
		if _, ok := field.Parse(*line); !ok {
			return read, false, 400
		}
		fields++
		if fields > api.MaxFields {
			return read, false, 431
		}
	}
}

// P8.1, P8.2: the chapter's examples.
func TestExamples(t *testing.T) {
	s := lines("5;a=b|hello|0||")
	says(t, s+"more", told{len(s), "hello", true, 0})
	says(t, lines("3|abcd"), told{7, "abc", false, 400})
	fails(t, lines("1001|"), "", 413)
	fails(t, lines("100000000|"), "", 400)
	fails(t, lines("g|"), "", 400)
}

// P8.1: New is a reader that read nothing.
func TestNew(t *testing.T) {
	r := New()
	if r == nil {
		t.Fatal("nil")
	}
	if r.Data() != "" || r.Done() || r.Bad() != 0 || r.Feed("") != 0 {
		t.Error("something was read")
	}
	goesOn(t, "", "")
}

// P8.2: what is said of a nil reader, and of one that New did not make.
func TestNotMade(t *testing.T) {
	var none *Reader
	s := lines("2|ab|0||")
	for range 2 {
		if none.Feed(s) != 0 || none.Feed("") != 0 || none.Data() != "" || none.Done() || none.Bad() != 400 {
			t.Error("nil reader")
		}
	}
	var r Reader
	if r.Data() != "" || r.Done() || r.Bad() != 0 {
		t.Error("one that New did not make")
	}
	if r.Feed(s+"x") != len(s) || r.Data() != "ab" || !r.Done() || r.Bad() != 0 {
		t.Error("one that New did not make, fed")
	}
	r = Reader{}
	if r.Feed("\n") != 1 || r.Bad() != 400 || r.Done() {
		t.Error("one that New did not make, fed wrong bytes")
	}
}

// P8.1: bodies that may be are read whole, and nothing behind them.
func TestBodies(t *testing.T) {
	for s, data := range map[string]string{
		"0||":                            "",
		"00000000||":                     "",
		"0;||":                           "",
		"0;last|X: y||":                  "",
		"0|X:|Y:\t a b ||":               "",
		"1|a|0||":                        "a",
		"00000001|a|0||":                 "a",
		"a|0123456789|0||":               "0123456789",
		"A|0123456789|0||":               "0123456789",
		"2|||0||":                        "\r\n",
		"3||0|0||":                       "\r\n0",
		"5|0|||0||":                      "0\r\n\r\n",
		"3;a=b;c=\"d; \t\xff\"|abc|0||":  "abc",
		"3; |abc|3;;|def|00;x|Z:0|z:1||": "abcdef",
		"1|\x00|1|\xff|0||":              "\x00\xff",
	} {
		s = lines(s)
		ends(t, s, data)
		says(t, s+s, told{len(s), data, true, 0})
		says(t, s+"\r\n", told{len(s), data, true, 0})
	}
	ends(t, "1f\r\n"+strings.Repeat("x", 31)+"\r\n0\r\n\r\n", strings.Repeat("x", 31))
	ends(t, "1F\r\n"+strings.Repeat("x", 31)+"\r\n0\r\n\r\n", strings.Repeat("x", 31))
}

// P8.2: the data is what was read up to now, chunk by chunk and in the midst of one; the body's end is told at its last byte.
func TestUpToNow(t *testing.T) {
	r := New()
	for _, step := range []struct {
		s, data string
		done    bool
	}{
		{"3", "", false}, {"\r", "", false}, {"\n", "", false}, {"a", "a", false}, {"bc", "abc", false},
		{"\r\n2\r\n\r", "abc\r", false}, {"\n", "abc\r\n", false}, {"\r\n", "abc\r\n", false},
		{"0\r\n", "abc\r\n", false}, {"A: b\r\n", "abc\r\n", false}, {"\r", "abc\r\n", false}, {"\n", "abc\r\n", true},
	} {
		if n := r.Feed(step.s); n != len(step.s) || r.Data() != step.data || r.Done() != step.done || r.Bad() != 0 {
			t.Errorf("%q: %d, %q, %v, %d", step.s, n, r.Data(), r.Done(), r.Bad())
		}
	}
	for range 2 {
		if r.Feed("0\r\n\r\n") != 0 || r.Data() != "abc\r\n" || !r.Done() || r.Bad() != 0 {
			t.Error("read behind the end")
		}
	}
}

// P8.1: nothing is read behind a wrong byte, and what was read ahead of it stays.
func TestBehindWrong(t *testing.T) {
	r := New()
	if n := r.Feed("2\r\nab\rcd"); n != 7 {
		t.Error("read", n)
	}
	for range 2 {
		if r.Feed("\n") != 0 || r.Feed("0\r\n\r\n") != 0 || r.Feed("") != 0 || r.Data() != "ab" || r.Done() || r.Bad() != 400 {
			t.Error("read behind a wrong byte")
		}
	}
}

// P8.1: a chunk's head: its size, of one to eight digits, and what may stand behind it.
func TestHeads(t *testing.T) {
	for _, s := range []string{
		"", " ", ";", ";a", " 1", "1 ", "1\t", "1 ;a", "1,a", "1:a", "x1", "0x1", "1g", "1G", "1h;a", "g", "G", "/", ":", "@", "`",
		"-1", "+1", "-0", "1.", "1_0", "\x00", "1\x00", "1;\x00", "1;\x01", "1;\x1f", "1;\x7f", "1;a\x7f", "1;\x0b", "\xff", "1\xff", "\xef\xbc\x91",
		"000000001", "000000000", "100000000", "123456789;a", "fffffffff", "0000000000000001", "1001;\x00", "ffffffff;\x7f", "ffffffff ",
	} {
		fails(t, s+"\r\n", "", 400)
		fails(t, "2\r\nab\r\n"+s+"\r\n", "ab", 400)
	}
	for _, s := range []string{"1", "01", "00000001", "1;", "1; ", "1;\t", "1;\x80", "1;\xff", "1;;", "1;\x7e", "1;a=\"\"", "1;1", "1;:"} {
		ends(t, s+"\r\nx\r\n"+"0"+s[strings.Index(s+";", ";"):]+"\r\n\r\n", "x")
	}
}

// P8.1: each digit counts what it should, at each place; each other byte is none.
func TestDigits(t *testing.T) {
	const digits = "0123456789abcdef"
	for b := range 256 {
		c := one(b)
		if c == "\r" || c == "\n" {
			continue
		}
		size := strings.Index(digits, strings.ToLower(c))
		for _, zeros := range []string{"", "0", "0000000"} {
			s := zeros + c + "\r\n"
			switch {
			case size < 0 && (c != ";" || zeros == ""):
				fails(t, s, "", 400)
			case size > 0:
				text := strings.Repeat("y", size)
				ends(t, s+text+"\r\n0\r\n\r\n", text)
				text = strings.Repeat("z", size*17)
				ends(t, c+s[len(zeros):]+text+"\r\n0\r\n\r\n", text)
			default:
				ends(t, s+"\r\n", "")
			}
		}
		if size > 0 {
			text := strings.Repeat("w", size*256)
			ends(t, c+"00\r\n"+text+"\r\n0\r\n\r\n", text)
			fails(t, c+"0000000\r\n", "", 413)
		}
	}
}

// P8.1: 413 of the head by which the body has more than MaxBody bytes, whichever chunk's it is.
func TestTooLong(t *testing.T) {
	whole := strings.Repeat("b", api.MaxBody)
	ends(t, "1000\r\n"+whole+"\r\n0\r\n\r\n", whole)
	ends(t, "fff\r\n"+whole[1:]+"\r\n1\r\nc\r\n0\r\n\r\n", whole[1:]+"c")
	for _, s := range []string{"1001", "00001001;a", "2000", "ffffffff", "FFFFFFFF", "80000000", "7fffffff", "80000001;", "100000", "fffff001"} {
		fails(t, s+"\r\n", "", 413)
		fails(t, "1\r\na\r\n"+s+"\r\n", "a", 413)
	}
	fails(t, "1\r\na\r\n1000\r\n", "a", 413)
	fails(t, "1000\r\n"+whole+"\r\n1\r\n", whole, 413)
	fails(t, "1000\r\n"+whole+"\r\n00000001;a\r\n", whole, 413)
	fails(t, "fff\r\n"+whole[1:]+"\r\n2\r\n", whole[1:], 413)
	fails(t, "1000\r\n"+whole+"\r\n1;\x01\r\n", whole, 400)
	fails(t, "1000\r\n"+whole+"\r\n1\n", whole, 400)
	fails(t, "1000\r\n"+whole+"x", whole, 400)
	many := strings.Repeat("1\r\nb\r\n", api.MaxBody)
	ends(t, many+"0\r\n\r\n", whole)
	fails(t, many+"1\r\n", whole, 413)
}

// P8.1: a LF without a CR ahead of it, and a CR without a LF behind it, are told at once, in each of the lines.
func TestHalfEnds(t *testing.T) {
	for _, ahead := range []struct{ s, data string }{
		{"", ""}, {"1", ""}, {"g", ""}, {"1;a", ""}, {"1;\x00", ""}, {"123456789", ""},
		{"1\r\na\r\n", "a"}, {"1\r\na\r\n0", "a"}, {"0\r\n", ""}, {"0\r\nX", ""}, {"0\r\nX:", ""}, {"0\r\nX:y\r\n", ""}, {"0\r\nX:y\r\nZ: ", ""},
		{"1\r\na", "a"},
	} {
		fails(t, ahead.s+"\n", ahead.data, 400)
		for b := range 256 {
			if b != '\n' {
				fails(t, ahead.s+"\r"+one(b), ahead.data, 400)
			}
		}
	}
}

// P8.1: behind a chunk's bytes stands CR LF, and no other byte.
func TestBehindChunk(t *testing.T) {
	for b := range 256 {
		if b == '\r' {
			goesOn(t, "3\r\nabc"+one(b), "abc")
		} else {
			fails(t, "3\r\nabc"+one(b), "abc", 400)
			fails(t, "1\r\n\r"+one(b), "\r", 400)
			fails(t, "1\r\na\r\n1\r\n\n"+one(b), "a\n", 400)
		}
	}
	fails(t, "3\r\nabc0\r\n\r\n"[:7], "abc", 400)
}

// marked are bytes for which a reader may look, and some others.
var marked = []int{0, '\t', '\n', '\r', ' ', '0', 'a', ':', ';', 'x', 0x7f, 0x80, 0xff}

// P8.1: a chunk's head has at most MaxHead bytes, its CR counted; what is wrong of its end goes ahead of that.
func TestLongHeads(t *testing.T) {
	for _, ahead := range []struct{ s, data string }{{"", ""}, {"1\r\na\r\n", "a"}, {"1;" + strings.Repeat("e", 2045) + "\r\na\r\n", "a"}} {
		for _, begin := range []string{"1;", "0;", "g", "1 ", ";", "000000000"} {
			full := begin + strings.Repeat("x", api.MaxHead-1-len(begin)) // with a CR it has as many as it may
			whole := ahead.s + full
			switch begin {
			case "1;":
				ends(t, whole+"\r\nz\r\n0\r\n\r\n", ahead.data+"z")
			case "0;":
				ends(t, whole+"\r\n\r\n", ahead.data)
			default:
				fails(t, whole+"\r\n", ahead.data, 400)
			}
			goesOn(t, whole+"x", ahead.data)
			for _, b := range marked {
				if b == '\n' {
					fails(t, whole+"x"+one(b), ahead.data, 400)
					continue
				}
				fails(t, whole+"x"+one(b), ahead.data, 431)
				fails(t, whole+"\r"+one(b), ahead.data, 400)
			}
			goesOn(t, whole+"\r", ahead.data)
			fails(t, whole+"\n", ahead.data, 400)
		}
	}
}

// P8.1: the trailers and the empty line have at most MaxHead bytes together; that goes ahead of all else.
func TestLongTrailers(t *testing.T) {
	for _, ahead := range []struct{ s, data string }{{"0\r\n", ""}, {"1\r\na\r\n0;" + strings.Repeat("e", 2045) + "\r\n", "a"}} {
		for _, begin := range []string{"X:", "A:1\r\nB:2\r\nC:", strings.Repeat("Y:\r\n", 31) + "Z:"} {
			full := ahead.s + begin + strings.Repeat("x", api.MaxHead-4-len(begin))
			ends(t, full+"\r\n\r\n", ahead.data)
			for _, b := range marked {
				fails(t, full+"xxxx"+one(b), ahead.data, 431)
				fails(t, full+"xxx\r"+one(b), ahead.data, 431)
				fails(t, full+"xx\r\n"+one(b), ahead.data, 431)
				fails(t, full+"x\r\n\r"+one(b), ahead.data, 431)
			}
			fails(t, full+"xxx\n", ahead.data, 400)
			fails(t, full+"xx\rx", ahead.data, 400)
			fails(t, full+"x\r\n\n", ahead.data, 400)
			fails(t, full+"\r\n\rx", ahead.data, 400)
			fails(t, full+"\x00\r\n", ahead.data, 400)
			fails(t, full+"x\x00\r\n", ahead.data, 400)
			fails(t, full+"xx\x00\r\n", ahead.data, 431)
		}
	}
}

// P8.1: there are at most MaxFields trailers; one that is no field is told ahead of that.
func TestManyTrailers(t *testing.T) {
	most := "1\r\na\r\n0\r\n" + strings.Repeat("X: y\r\n", api.MaxFields)
	ends(t, most+"\r\n", "a")
	fails(t, most+"X: y\r\n", "a", 431)
	fails(t, most+":\r\n", "a", 400)
	fails(t, most+"X\n", "a", 400)
	fails(t, most+"X:\rx", "a", 400)
}

// P8.1: each trailer is a field; what is none is told at its line's end.
func TestTrailers(t *testing.T) {
	for _, s := range []string{":", " ", "X", "X :y", " X:y", ": y", "X\x00:y", "X:\x00", "X:y\x7f", "\xff:", "X:\x0b", "a b: c", "\t", "0", "(:"} {
		fails(t, "0\r\n"+s+"\r\n", "", 400)
		fails(t, "1\r\na\r\n0\r\nA:b\r\n"+s+"\r\n", "a", 400)
	}
	for _, s := range []string{"X:", "X::", "X: y", "x:\ty\t", "X:\xff", "!#$%&'*+-.^_`|~:;", "Content-Length: 5", "Transfer-Encoding: chunked", "0:"} {
		ends(t, "0\r\n"+s+"\r\n\r\n", "")
		ends(t, "1\r\na\r\n0\r\nA:b\r\n"+s+"\r\n\r\n", "a")
	}
}

// P8.1, P8.3: a body one of whose bytes is another one, or lacks, or that has one more, is read as it should be.
func TestEachByteAtEachPlace(t *testing.T) {
	for _, s := range []string{"3;a|abc|1|x|0|X:y||", "00000002|\r\n|0||", "0;a||"} {
		s = lines(s)
		for at := range len(s) + 1 {
			says(t, s[:at], plain(s[:at]))
			for b := range 256 {
				more := s[:at] + one(b) + s[at:]
				says(t, more, plain(more))
				if at < len(s) {
					other := s[:at] + one(b) + s[at+1:]
					says(t, other, plain(other))
				}
			}
			if at < len(s) {
				less := s[:at] + s[at+1:]
				says(t, less, plain(less))
			}
		}
	}
}

// inChunks is text in chunks, cut by random, and an empty last one.
func inChunks(random *rand.Rand, text string) string {
	var b strings.Builder
	for text != "" {
		n := 1 + random.Intn(min(len(text), 1<<random.Intn(13)))
		size := strconv.FormatInt(int64(n), 16)
		if random.Intn(2) == 0 {
			size = strings.ToUpper(size)
		}
		size = strings.Repeat("0", random.Intn(9-len(size))) + size
		extra := []string{"", "", ";", ";a=b", "; \xff"}[random.Intn(5)]
		b.WriteString(size + extra + "\r\n" + text[:n] + "\r\n")
		text = text[n:]
	}
	b.WriteString(strings.Repeat("0", 1+random.Intn(8)) + []string{"", ";x"}[random.Intn(2)] + "\r\n")
	b.WriteString(strings.Repeat("T: "+one('a'+random.Intn(26))+"\r\n", random.Intn(api.MaxFields+1)) + "\r\n")
	return b.String()
}

// anyText is a text of random bytes, n at most.
func anyText(random *rand.Rand, n int) string {
	l := make([]byte, random.Intn(n+1))
	random.Read(l)
	return string(l)
}

// inPieces is s, cut by random.
func inPieces(random *rand.Rand, s string) []string {
	var l []string
	most := 1 + random.Intn(40)
	for s != "" {
		n := min(random.Intn(most+1), len(s))
		l = append(l, s[:n])
		s = s[n:]
	}
	return l
}

// P8.3: a text, cut into chunks, and an empty last one, is read as that text, however the bytes are cut.
func TestTextInChunks(t *testing.T) {
	random := rand.New(rand.NewSource(8))
	for range 400 {
		text := anyText(random, 1<<random.Intn(13))
		s := inChunks(random, text)
		want := told{len(s), text, true, 0}
		if got := fed(s + anyText(random, 9)); got != want {
			t.Fatalf("%s: %d, %v, %d", brief(s), got.read, got.done, got.bad)
		}
		for range 3 {
			if got := fed(append(inPieces(random, s), "more")...); got != want {
				t.Fatalf("%s, in pieces: %d, %v, %d", brief(s), got.read, got.done, got.bad)
			}
		}
	}
	for _, n := range []int{0, 1, api.MaxBody - 1, api.MaxBody} {
		text := strings.Repeat("q", n)
		s := inChunks(random, text)
		ends(t, s, text)
	}
}

// P8.1, P8.2, P8.3: of bodies in which some bytes are others, a reader says what is plain, however they are cut.
func TestWrongBodies(t *testing.T) {
	random := rand.New(rand.NewSource(88))
	const often = "\r\n\r\n\r\n;0123456789abcdefABCDEF: \tX\x00\x7f\xff"
	for range 20000 {
		l := []byte(inChunks(random, anyText(random, 1<<random.Intn(8))))
		for range random.Intn(3) {
			at := random.Intn(len(l))
			switch random.Intn(3) {
			case 0:
				l[at] = often[random.Intn(len(often))]
			case 1:
				l = append(l[:at], l[at+1:]...)
			case 2:
				l = append(l[:at+1], l[at:]...)
			}
		}
		s := string(l)
		want := plain(s)
		if got := fed(s); got != want {
			t.Fatalf("%q: %v, want %v", s, got, want)
		}
		if got := fed(inPieces(random, s)...); got != want {
			t.Fatalf("%q, in pieces: %v, want %v", s, got, want)
		}
	}
	for range 20000 {
		l := make([]byte, random.Intn(30))
		for i := range l {
			l[i] = often[random.Intn(len(often))]
		}
		s := string(l)
		if got, want := fed(inPieces(random, s)...), plain(s); got != want {
			t.Fatalf("%q: %v, want %v", s, got, want)
		}
	}
}

// R1: long inputs end, and are read no further than they should be.
func TestLong(t *testing.T) {
	long := strings.Repeat("1", 1<<24)
	if got := fed(long); got != (told{api.MaxHead + 1, "", false, 431}) {
		t.Error(got)
	}
	if got := fed("0\r\n" + long); got != (told{3 + api.MaxHead + 1, "", false, 431}) {
		t.Error(got)
	}
	if got := fed("2\r\n" + long); got != (told{6, "11", false, 400}) {
		t.Error(got)
	}
}

// R3: readers know nothing of one another.
func TestApart(t *testing.T) {
	a, b := New(), New()
	a.Feed("3\r\nab")
	b.Feed("2\r\nx")
	a.Feed("c\r\n0\r\n")
	b.Feed("\n\n")
	if a.Data() != "abc" || a.Bad() != 0 || b.Data() != "x\n" || b.Bad() != 400 {
		t.Error(a.Data(), a.Bad(), b.Data(), b.Bad())
	}
	if a.Feed("\r\n") != 2 || !a.Done() || b.Done() {
		t.Error("done")
	}
}

// R4: what was answered stays as it was, whatever is read later.
func TestStays(t *testing.T) {
	r := New()
	r.Feed("5\r\nhe")
	early := r.Data()
	r.Feed("llo\r\n0\r\n\r\n")
	if early != "he" || r.Data() != "hello" {
		t.Error(early, r.Data())
	}
}
