package message_test

import (
	"math"
	"runtime"
	"slices"
	"strconv"
	"strings"
	"testing"
	"unicode/utf8"

	"crier/api"
	"crier/message"
)

// step is a call, what it should answer, and how it should stand behind it.
type step struct {
	call call
	want answer
	then state
}

// open is for a call that is answered 0, and behind which a message is open; of its frame so many bytes lack (-1, if none has begun).
func (c call) open(lacks int) step { return step{c, answer{}, state{0, true, lacks}} }

// wrong is for a call that is answered this code.
func (c call) wrong(code int) step { return step{c, answer{code: code}, state{code, false, -1}} }

// whole is for a call that is answered a message.
func (c call) whole(op int, text string) step {
	return step{c, answer{message.Message{Op: op, Text: text}, true, 0}, state{0, false, -1}}
}

// show is a call, short enough to be shown.
func (c call) show() string {
	switch c.kind {
	case callBegin:
		return "Begin(" + strconv.FormatBool(c.last) + ", " + strconv.Itoa(c.op) + ", " + strconv.Itoa(c.n) + ")"
	case callPiece:
		return "Piece(" + brief(c.s) + ")"
	}
	return "End"
}

// brief is a text that is short enough to be shown.
func brief(s string) string {
	if len(s) > 60 {
		return strconv.Quote(s[:40]) + ".. of " + strconv.Itoa(len(s))
	}
	return strconv.Quote(s)
}

// show are calls, short enough to be shown.
func show(l []call) string {
	var out []string
	for _, c := range l[max(0, len(l)-20):] {
		out = append(out, c.show())
	}
	return strconv.Itoa(len(l)) + "[" + strings.Join(out, ", ") + "]"
}

// made is one to which nothing came.
func made(t testing.TB, limit int) *message.Joiner {
	t.Helper()
	j, e := message.New(limit)
	if j == nil || e != api.OK {
		t.Fatalf("limit %d: %v, %v", limit, j, e)
	}
	return j
}

// stateOf is how a joiner stands, asked twice, as asking turns nothing.
func stateOf(t testing.TB, j *message.Joiner) state {
	t.Helper()
	s := state{j.Bad(), j.Open(), j.Lacks()}
	if again := (state{j.Bad(), j.Open(), j.Lacks()}); again != s {
		t.Errorf("%v, and then %v", s, again)
	}
	return s
}

// run says whether a joiner answers to the calls, and stands behind each, as it should, and the plain one likewise; and that what is wrong is so for good.
func run(t *testing.T, limit int, steps ...step) {
	t.Helper()
	j, p := made(t, limit), &plain{limit: limit}
	var calls []call
	for _, x := range steps {
		calls = append(calls, x.call)
		if a, s := x.call.of(j), stateOf(t, j); a != x.want || s != x.then {
			t.Errorf("limit %d, %s: %v, %v, want %v, %v", limit, show(calls), a, s, x.want, x.then)
		}
		if a, s := p.of(x.call), p.state(); a != x.want || s != x.then {
			t.Errorf("limit %d, %s, plainly: %v, %v, want %v, %v", limit, show(calls), a, s, x.want, x.then)
		}
	}
	if bad := j.Bad(); bad != 0 {
		stays(t, j, bad)
	}
}

// stays says whether each call is answered this code, and nothing else stands.
func stays(t *testing.T, j *message.Joiner, code int) {
	t.Helper()
	for range 2 {
		for _, c := range []call{
			end(), begin(true, 1, 1), piece("a"), end(), begin(false, 2, 0), end(), begin(true, 0, 0), end(), piece(""), piece("\xff"),
			begin(true, 2, math.MaxInt), begin(true, 1, -1), begin(true, 9, 0), piece(strings.Repeat("a", 3000)), begin(false, 0, 1<<41), end(),
		} {
			if a, s := c.of(j), stateOf(t, j); a != (answer{code: code}) || s != (state{code, false, -1}) {
				t.Errorf("%s behind %d: %v, %v", c.show(), code, a, s)
			}
		}
	}
}

// P18.1: New.
func TestNew(t *testing.T) {
	for _, limit := range []int{math.MinInt, math.MinInt + 1, -1 << 40, -2048, -2, -1, 1<<40 + 1, 1<<40 + 2, 1 << 41, 1 << 62, math.MaxInt - 1, math.MaxInt} {
		if j, e := message.New(limit); j != nil || e != api.ErrArg {
			t.Errorf("%d: %v, %v", limit, j, e)
		}
	}
	for _, limit := range []int{0, 1, 2, 125, 2048, 1 << 31, 1<<32 + 1, 1<<40 - 1, 1 << 40} {
		if s := stateOf(t, made(t, limit)); s != (state{0, false, -1}) {
			t.Errorf("%d: %v", limit, s)
		}
		run(t, limit, begin(true, 2, limit).open(limit))
		run(t, limit, begin(true, 2, limit+1).wrong(1009))
		run(t, limit, begin(true, 1, 0).open(0), end().whole(1, ""), begin(true, 2, 0).open(0), end().whole(2, ""))
	}
}

// P18.1, P18.2: the chapter's examples.
func TestExamples(t *testing.T) {
	run(t, 5, begin(false, 1, 2).open(2), piece("h").open(1), piece("i").open(0), end().open(-1), begin(true, 0, 1).open(1), piece("!").open(0), end().whole(1, "hi!"))
	run(t, 5, begin(true, 0, 1).wrong(1002), begin(true, 1, 0).wrong(1002))
	run(t, 5, begin(false, 2, 3).open(3), piece("abc").open(0), end().open(-1), begin(true, 0, 3).wrong(1009))
	run(t, 5, begin(true, 1, 2).open(2), piece("\xc3").open(1), end().wrong(1002))
	run(t, 5, begin(true, 1, 1).open(1), piece("\xff").wrong(1007))
}

// between are what may be there ahead of a call, and how it comes there: whether a message is open, whether a frame has begun, and the room that is left of the limit 10.
var between = []struct {
	name  string
	steps []step
	open  bool
	begun bool
	room  int
}{
	{"nothing", nil, false, false, 10},
	{"a message has ended", []step{begin(true, 1, 3).open(3), piece("abc").open(0), end().whole(1, "abc")}, false, false, 10},
	{"a message of two frames has ended", []step{begin(false, 2, 3).open(3), piece("abc").open(0), end().open(-1), begin(true, 0, 7).open(7), piece("defghij").open(0), end().whole(2, "abcdefghij")}, false, false, 10},
	{"a text's first frame has ended", []step{begin(false, 1, 3).open(3), piece("abc").open(0), end().open(-1)}, true, false, 7},
	{"a text's first frame has ended within a character", []step{begin(false, 1, 3).open(3), piece("a\xe2\x82").open(0), end().open(-1)}, true, false, 7},
	{"a first frame has ended that had no data", []step{begin(false, 2, 0).open(0), end().open(-1)}, true, false, 10},
	{"a first frame has ended that left no room", []step{begin(false, 2, 10).open(10), piece("abcdefghij").open(0), end().open(-1)}, true, false, 0},
	{"three frames have ended", []step{begin(false, 2, 1).open(1), piece("a").open(0), end().open(-1), begin(false, 0, 2).open(2), piece("bc").open(0), end().open(-1), begin(false, 0, 3).open(3), piece("def").open(0), end().open(-1)}, true, false, 4},
	{"one frame has begun", []step{begin(true, 2, 3).open(3)}, true, true, 7},
	{"one that is not the last has begun", []step{begin(false, 1, 3).open(3)}, true, true, 7},
	{"one lacks a byte", []step{begin(true, 1, 3).open(3), piece("ab").open(1)}, true, true, 7},
	{"one lacks nothing", []step{begin(true, 1, 3).open(3), piece("abc").open(0)}, true, true, 7},
	{"one has no data", []step{begin(false, 1, 0).open(0)}, true, true, 10},
	{"a second one has begun", []step{begin(false, 2, 3).open(3), piece("abc").open(0), end().open(-1), begin(false, 0, 2).open(2)}, true, true, 5},
	{"a second one lacks nothing", []step{begin(false, 1, 3).open(3), piece("abc").open(0), end().open(-1), begin(true, 0, 2).open(2), piece("de").open(0)}, true, true, 5},
}

// P18.1: Begin, behind all that may be there, with all Ops and lengths.
func TestBegin(t *testing.T) {
	for _, x := range between {
		for _, op := range []int{math.MinInt, -256, -2, -1, 0, 1, 2, 3, 4, 5, 6, 7, 8, 9, 10, 11, 12, 15, 16, 128, 129, 256, 257, 258, 1 << 32, 1<<32 + 1, math.MaxInt} {
			for _, n := range []int{math.MinInt, math.MinInt + 1, -1 << 40, -11, -1, 0, 1, x.room - 1, x.room, x.room + 1, 10, 11, 1 << 31, 1 << 32, 1 << 40, 1<<40 + 1, 1 << 62, math.MaxInt - 10, math.MaxInt - 1, math.MaxInt} {
				for _, last := range []bool{false, true} {
					c := begin(last, op, n)
					want := c.open(n)
					switch {
					case x.begun || op < 0 || op > 2 || (op == 0) != x.open || n < 0:
						want = c.wrong(1002)
					case n > x.room:
						want = c.wrong(1009)
					}
					run(t, 10, append(slices.Clone(x.steps), want)...)
				}
			}
		}
		if t.Failed() {
			t.Fatal(x.name)
		}
	}
}

// P18.1: each of Begin's codes alone.
func TestBeginAlone(t *testing.T) {
	run(t, 5, begin(true, 1, 0).open(0), begin(true, 1, 0).wrong(1002))
	run(t, 5, begin(false, 1, 0).open(0), begin(true, 0, 0).wrong(1002)) // the first frame lacks nothing, but has not ended
	run(t, 5, begin(false, 2, 2).open(2), begin(true, 0, 1).wrong(1002))
	run(t, 5, begin(true, 3, 0).wrong(1002))
	run(t, 5, begin(true, api.OpClose, 0).wrong(1002))
	run(t, 5, begin(true, api.OpPing, 0).wrong(1002))
	run(t, 5, begin(true, api.OpPong, 0).wrong(1002))
	run(t, 5, begin(false, 1, 0).open(0), end().open(-1), begin(true, api.OpPing, 0).wrong(1002))
	run(t, 5, begin(true, api.OpMore, 0).wrong(1002))
	run(t, 5, begin(true, 1, 0).open(0), end().whole(1, ""), begin(true, api.OpMore, 0).wrong(1002))
	run(t, 5, begin(false, 1, 0).open(0), end().open(-1), begin(true, 1, 0).wrong(1002))
	run(t, 5, begin(false, 1, 0).open(0), end().open(-1), begin(true, 2, 0).wrong(1002))
	run(t, 5, begin(false, 2, 0).open(0), end().open(-1), begin(false, 2, 0).wrong(1002))
	run(t, 5, begin(true, 1, -1).wrong(1002))
	run(t, 5, begin(false, 1, 3).open(3), piece("abc").open(0), end().open(-1), begin(true, 0, -1).wrong(1002)) // not even where it would leave room
	run(t, 5, begin(true, 1, 6).wrong(1009))
	run(t, 5, begin(true, 2, math.MaxInt).wrong(1009))
	run(t, 5, begin(false, 2, 5).open(5), piece("abcde").open(0), end().open(-1), begin(true, 0, math.MaxInt).wrong(1009)) // together they would wrap round
	run(t, 5, begin(false, 2, 1).open(1), piece("a").open(0), end().open(-1), begin(true, 0, math.MaxInt).wrong(1009))
}

// P18.1: what is wrong with a beginning in another way than its length comes first.
func TestBeginSeveral(t *testing.T) {
	run(t, 5, begin(true, 1, 1).open(1), begin(true, 1, 6).wrong(1002))
	run(t, 5, begin(false, 1, 1).open(1), begin(true, 0, 6).wrong(1002))
	run(t, 5, begin(true, 0, 6).wrong(1002))
	run(t, 5, begin(true, 7, 6).wrong(1002))
	run(t, 5, begin(true, -1, math.MaxInt).wrong(1002))
	run(t, 5, begin(false, 1, 1).open(1), piece("a").open(0), end().open(-1), begin(true, 1, 5).wrong(1002))
	run(t, 5, begin(false, 1, 1).open(1), piece("a").open(0), end().open(-1), begin(true, 2, math.MaxInt).wrong(1002))
	run(t, 5, begin(false, 1, 1).open(1), piece("a").open(0), end().open(-1), begin(true, 8, 5).wrong(1002))
	run(t, 5, begin(false, 1, 1).open(1), piece("\xc3").open(0), end().open(-1), begin(true, 0, 5).wrong(1009)) // nor is a character waited for that lacks bytes
	run(t, 5, begin(false, 1, 1).open(1), piece("\xc3").open(0), end().open(-1), begin(true, 1, 0).wrong(1002))
}

// P18.1: the limit is of a message's lengths, not of one frame's, nor of all messages'; and of those begun with, not of data that came.
func TestLimit(t *testing.T) {
	for _, limit := range []int{1, 4, 7, 100} {
		var steps []step
		data := strings.Repeat("x", limit)
		for range 3 { // a byte a frame, as many as may be
			for i := range limit {
				op := 0
				if i == 0 {
					op = 2
				}
				steps = append(steps, begin(false, op, 1).open(1), piece("x").open(0), end().open(-1))
			}
			steps = append(steps, begin(true, 0, 0).open(0), end().whole(2, data))
		}
		run(t, limit, steps...)
		run(t, limit, append(slices.Clone(steps[:len(steps)-2]), begin(true, 0, 1).wrong(1009))...)
		run(t, limit, append(slices.Clone(steps), begin(true, 1, limit).open(limit), piece(data).open(0), end().whole(1, data))...)
		run(t, limit, append(slices.Clone(steps), begin(true, 1, limit+1).wrong(1009))...)
		run(t, limit, begin(false, 2, limit).open(limit), piece(data).open(0), end().open(-1), begin(false, 0, 0).open(0), end().open(-1), begin(true, 0, 1).wrong(1009))
	}
	run(t, 0, begin(false, 1, 0).open(0), end().open(-1), begin(true, 0, 0).open(0), piece("").open(0), end().whole(1, ""), begin(true, 2, 1).wrong(1009))
	run(t, 0, begin(false, 1, 0).open(0), end().open(-1), begin(true, 0, 1).wrong(1009))
	run(t, 1<<40, begin(false, 2, 5).open(5), piece("abcde").open(0), end().open(-1), begin(true, 0, 1<<40-5).open(1<<40-5))
	run(t, 1<<40, begin(false, 2, 5).open(5), piece("abcde").open(0), end().open(-1), begin(true, 0, 1<<40-4).wrong(1009))
}

// P18.1: Piece, behind all that may be there, with as many bytes as the frame lacks, and others.
func TestPiece(t *testing.T) {
	for _, x := range between {
		lacks := -1
		if n := len(x.steps); n > 0 {
			lacks = x.steps[n-1].then.lacks
		}
		for _, n := range []int{0, 1, 2, 3, 4, 5, 10, 11, 1000} {
			c := piece(strings.Repeat("x", n))
			want := c.wrong(1002)
			if x.begun && n <= lacks {
				want = c.open(lacks - n)
			}
			run(t, 10, append(slices.Clone(x.steps), want)...)
		}
		if t.Failed() {
			t.Fatal(x.name)
		}
	}
}

// P18.1: a piece's bytes that can't stand in a text; more than the frame lacks is told first.
func TestPieceText(t *testing.T) {
	run(t, 9, piece("\xff").wrong(1002))
	run(t, 9, begin(true, 1, 1).open(1), piece("a\xff").wrong(1002))
	run(t, 9, begin(true, 1, 1).open(1), piece("\xffa").wrong(1002))
	run(t, 9, begin(true, 1, 0).open(0), piece("\xff").wrong(1002))
	for _, x := range []struct{ ahead, bad string }{
		{"", "\xff"}, {"", "\x80"}, {"", "\xc0"}, {"", "\xf5"}, {"ab", "\xff"}, {"ab", "\xbf"}, // where a character should begin
		{"\xc3", "a"}, {"\xc3", "\xc3"}, {"\xe0", "\x80"}, {"\xe0", "\x9f"}, {"\xed", "\xa0"}, {"\xf0", "\x8f"}, {"\xf4", "\x90"}, // its second byte
		{"a\xe2\x82", "\xff"}, {"a\xe2\x82", "b"}, {"\xf0\x9f\x98", "\xc0"}, {"\xf0\x9f", "\x7f"}, {"\xe2\x82\xac", "\xac"}, // a later one, and one more
	} {
		a, b, n := x.ahead, x.bad, len(x.ahead+x.bad)
		text := []step{begin(true, 1, n+2).open(n + 2)}
		run(t, 9, append(slices.Clone(text), piece(a+b).wrong(1007))...)
		run(t, 9, append(slices.Clone(text), piece(a+b+"cd").wrong(1007))...)
		run(t, 9, append(slices.Clone(text), piece(a).open(3), piece(b).wrong(1007))...) // across pieces
		run(t, 9, append(slices.Clone(text), piece(a).open(3), piece("").open(3), piece(b+"c").wrong(1007))...)
		byByte := text
		for i := range len(a) {
			byByte = append(byByte, piece(a[i:i+1]).open(n+1-i))
		}
		run(t, 9, append(byByte, piece(b).wrong(1007))...)
		across := []step{begin(false, 1, len(a)).open(len(a)), piece(a).open(0), end().open(-1)} // across frames
		run(t, 9, append(slices.Clone(across), begin(true, 0, 2).open(2), piece(b).wrong(1007))...)
		run(t, 9, append(slices.Clone(across), begin(false, 0, 0).open(0), end().open(-1), begin(false, 0, 1).open(1), piece("").open(1), piece(b).wrong(1007))...)
		binary := []step{begin(true, 2, n).open(n), piece(a + b).open(0), end().whole(2, a+b)} // no text
		run(t, 9, append(binary, binary...)...)
		run(t, 9, begin(false, 2, len(a)).open(len(a)), piece(a).open(0), end().open(-1), begin(true, 0, 1).open(1), piece(b).open(0), end().whole(2, a+b),
			begin(true, 1, 1).open(1), piece("e").open(0), end().whole(1, "e"))
	}
}

// P18.1, P18.2: what an end says, behind all that may be there.
func TestEnd(t *testing.T) {
	for _, x := range between {
		if n := len(x.steps); !x.begun || x.steps[n-1].then.lacks > 0 {
			run(t, 10, append(slices.Clone(x.steps), end().wrong(1002))...)
		}
		if t.Failed() {
			t.Fatal(x.name)
		}
	}
	run(t, 9, end().wrong(1002))
	run(t, 9, begin(true, 1, 0).open(0), end().whole(1, ""), end().wrong(1002))
	run(t, 9, begin(false, 1, 0).open(0), end().open(-1), end().wrong(1002))
	run(t, 9, begin(false, 2, 2).open(2), end().wrong(1002))
	run(t, 9, begin(true, 2, 2).open(2), piece("a").open(1), end().wrong(1002))
	run(t, 9, begin(false, 1, 2).open(2), piece("a").open(1), end().wrong(1002))
	for _, cut := range []string{"\xc3", "a\xc3", "\xe2", "\xe2\x82", "\xf0", "\xf0\x9f", "\xf0\x9f\x98", "\xc3\xa9\xc3"} {
		n := len(cut)
		run(t, 9, begin(true, 1, n).open(n), piece(cut).open(0), end().wrong(1007))                                               // a character lacks bytes
		run(t, 9, begin(true, 1, n+1).open(n+1), piece(cut).open(1), end().wrong(1002))                                           // and the frame too: that comes first
		run(t, 9, begin(true, 2, n).open(n), piece(cut).open(0), end().whole(2, cut))                                             // no text
		run(t, 9, begin(false, 2, n).open(n), piece(cut).open(0), end().open(-1), begin(true, 0, 0).open(0), end().whole(2, cut)) // no text
		run(t, 9, begin(false, 1, n).open(n), piece(cut).open(0), end().open(-1), begin(true, 0, 0).open(0), end().wrong(1007))   // in the last frame alone
		run(t, 9, begin(false, 1, n).open(n), piece(cut).open(0), end().open(-1), begin(false, 0, 0).open(0), end().open(-1))     // not in one that isn't
		run(t, 9, begin(false, 1, 1).open(1), piece("a").open(0), end().open(-1), begin(true, 0, n).open(n), piece(cut).open(0), end().wrong(1007))
	}
	run(t, 9, begin(false, 1, 1).open(1), piece("\xe2").open(0), end().open(-1), begin(false, 0, 1).open(1), piece("\x82").open(0), end().open(-1), begin(true, 0, 1).open(1), piece("\xac").open(0), end().whole(1, "\xe2\x82\xac"))
}

// P18.2: a message has its first frame's Op, and all data in order; the next one has nothing of it.
func TestMessages(t *testing.T) {
	run(t, 9,
		begin(true, 1, 2).open(2), piece("ab").open(0), end().whole(1, "ab"),
		begin(true, 1, 2).open(2), piece("cd").open(0), end().whole(1, "cd"),
		begin(false, 2, 2).open(2), piece("\xc3").open(1), piece("\xff").open(0), end().open(-1), begin(false, 0, 0).open(0), end().open(-1), begin(true, 0, 1).open(1), piece("\xe2").open(0), end().whole(2, "\xc3\xff\xe2"),
		begin(true, 1, 2).open(2), piece("\xc3\xa9").open(0), end().whole(1, "\xc3\xa9"), // what a binary one ended with is not waited for
		begin(true, 1, 0).open(0), end().whole(1, ""),
		begin(true, 2, 0).open(0), end().whole(2, ""),
		begin(false, 1, 0).open(0), piece("").open(0), end().open(-1), begin(true, 0, 9).open(9), piece("").open(9), piece("123456789").open(0), piece("").open(0), end().whole(1, "123456789"),
		begin(true, 2, 1).open(1), piece("\xff").open(0), end().whole(2, "\xff"), // behind a text, of which a byte is asked more
		begin(true, 1, 1).open(1), piece("\xff").wrong(1007),
	)
	run(t, 9, begin(false, 1, 1).open(1), piece("a").open(0), end().open(-1), begin(true, 0, 0).open(0), end().whole(1, "a"), begin(true, 0, 0).wrong(1002))
	run(t, 9, begin(true, 1, 1).open(1), piece("a").open(0), end().whole(1, "a"), piece("").wrong(1002))
	run(t, 9, begin(true, 2, 1).open(1), piece("a").open(0), end().whole(2, "a"), begin(true, 1, 3).open(3), piece("\xe2\x82\xac").open(0), end().whole(1, "\xe2\x82\xac"), begin(true, 1, 1).open(1), piece("\xac").wrong(1007))
}

// P18.1, P18.2: the code that is told first stays, whatever else is wrong behind it; and there is no message, though one was nearly whole.
func TestForGood(t *testing.T) {
	run(t, 5, begin(true, 1, 6).wrong(1009), begin(true, 3, 0).wrong(1009), piece("a").wrong(1009), end().wrong(1009))
	run(t, 5, begin(true, 1, 1).open(1), piece("\xff").wrong(1007), piece("ab").wrong(1007), begin(true, 1, 6).wrong(1007), end().wrong(1007))
	run(t, 5, begin(true, 1, 1).open(1), piece("\xc3").open(0), end().wrong(1007), end().wrong(1007), begin(true, 1, 6).wrong(1007))
	run(t, 5, begin(true, 2, 1).open(1), piece("a").open(0), piece("b").wrong(1002), end().wrong(1002), begin(true, 2, 6).wrong(1002))
	run(t, 5, begin(true, 2, 1).open(1), end().wrong(1002), piece("a").wrong(1002), end().wrong(1002))
	run(t, 5, begin(false, 1, 1).open(1), piece("a").open(0), end().open(-1), begin(true, 2, 0).wrong(1002), begin(true, 0, 5).wrong(1002), begin(true, 0, 0).wrong(1002), end().wrong(1002))
	run(t, 5, begin(true, 2, 1).open(1), piece("a").open(0), begin(true, 2, 1).wrong(1002), end().wrong(1002))
	run(t, 5, piece("").wrong(1002), begin(true, 1, 0).wrong(1002), end().wrong(1002))
}

// R1, P18.2: a nil joiner, and one that New did not make.
func TestNil(t *testing.T) {
	stays(t, nil, 1002)
	var zero message.Joiner
	stays(t, &zero, 1002)
	stays(t, new(message.Joiner), 1002)
	for _, c := range []call{begin(true, 1, 0), piece(""), end(), begin(true, 1, math.MaxInt), begin(false, 9, -1), piece("\xff")} {
		for _, j := range []*message.Joiner{nil, {}} {
			if a, s := c.of(j), stateOf(t, j); a != (answer{code: 1002}) || s != (state{1002, false, -1}) {
				t.Errorf("%s: %v, %v", c.show(), a, s)
			}
		}
	}
}

// R3: joiners know nothing of one another.
func TestTwo(t *testing.T) {
	a, b, c := made(t, 5), made(t, 5), made(t, 2)
	for i, x := range []struct {
		j *message.Joiner
		step
	}{
		{a, begin(true, 1, 3).open(3)}, {b, begin(false, 2, 1).open(1)}, {a, piece("a\xc3").open(1)}, {c, begin(true, 1, 3).wrong(1009)},
		{b, piece("\xff").open(0)}, {a, piece("\xa9").open(0)}, {b, end().open(-1)}, {c, end().wrong(1009)}, {a, end().whole(1, "a\u00e9")},
		{b, begin(true, 0, 4).open(4)}, {a, begin(true, 0, 4).wrong(1002)}, {b, piece("bcde").open(0)}, {b, end().whole(2, "\xffbcde")},
	} {
		if got, s := x.call.of(x.j), stateOf(t, x.j); got != x.want || s != x.then {
			t.Errorf("%d: %v, %v, want %v, %v", i, got, s, x.want, x.then)
		}
	}
}

// P18.1 to P18.3: all texts of two bytes, and all that begin with four of some, in a frame that has them all, or as the data of two.
func TestBytes(t *testing.T) {
	some := []byte{0x00, 0x7f, 0x80, 0x8f, 0x90, 0x9f, 0xa0, 0xbf, 0xc1, 0xc2, 0xdf, 0xe0, 0xe1, 0xec, 0xed, 0xee, 0xef, 0xf0, 0xf1, 0xf3, 0xf4, 0xf5, 0xff}
	for a := range 256 {
		for b := range 256 {
			isTold(t, string([]byte{byte(a), byte(b)}), 1)
		}
	}
	for _, a := range some {
		for _, b := range some {
			for _, c := range some {
				for _, d := range some {
					isTold(t, string([]byte{a, b, c, d}), 2)
				}
			}
		}
	}
}

// isTold says whether s, as a text in frames cut at this place, is told if it is one, and else is wrong at the right byte.
func isTold(t *testing.T, s string, at int) {
	j := made(t, len(s))
	right := 0 // so many bytes may stand
	for right < len(s) && beginsText(s[:right+1]) {
		right++
	}
	code := j.Begin(false, 1, at)
	for i := range len(s) {
		if i == at {
			_, _, ended := j.End()
			code = max(code, ended, j.Begin(true, 0, len(s)-at))
		}
		if code = max(code, j.Piece(s[i:i+1])); code == 0 != (i < right) {
			t.Fatalf("%q: %d at %d", s, code, i)
		}
	}
	if m, whole, code := j.End(); whole != utf8.ValidString(s) || whole && m != (message.Message{Op: 1, Text: s}) || !whole && (m != message.Message{} || code != 1007) {
		t.Fatalf("%q: %v", s, answer{m, whole, code})
	}
}

// heap is how many bytes of memory are kept.
func heap() int {
	runtime.GC()
	runtime.GC()
	var m runtime.MemStats
	runtime.ReadMemStats(&m)
	return int(m.HeapAlloc)
}

// P18.1, P18.2: a length is no memory yet; of what was told, and of what is wrong, nothing is kept.
func TestLetGo(t *testing.T) {
	const much = 32 << 20
	begun := heap()
	ahead, told, wrong := made(t, 1<<40), made(t, 1<<40), made(t, 1<<40)
	ahead.Begin(true, 2, 1<<40)
	for _, j := range []*message.Joiner{told, wrong} {
		j.Begin(true, 2, much)
		j.Piece(strings.Repeat("a", much))
	}
	if m, whole, _ := told.End(); !whole || len(m.Text) != much {
		t.Errorf("%v, %d bytes", whole, len(m.Text))
	}
	wrong.Piece("a")
	for range 3 {
		wrong.Begin(true, 2, much)
		wrong.Piece(strings.Repeat("a", much))
	}
	if more := heap() - begun; more > much/2 {
		t.Errorf("%d bytes are kept", more)
	}
	if a, b, c := stateOf(t, ahead), stateOf(t, told), stateOf(t, wrong); a != (state{0, true, 1 << 40}) || b != (state{0, false, -1}) || c != (state{1002, false, -1}) {
		t.Errorf("%v, %v, %v", a, b, c)
	}
}
