package message_test

import (
	"math"
	"math/rand"
	"slices"
	"strconv"
	"strings"
	"testing"
	"unicode/utf8"

	"crier/message"
)

// drawnChar is a character of any number of bytes.
func drawnChar(r *rand.Rand) string {
	for {
		n := rune(r.Intn([]int{0x80, 0x800, 0x10000, 0x110000}[r.Intn(4)]))
		if utf8.ValidRune(n) {
			return string(n)
		}
	}
}

// drawnData are bytes that a message with this Op may have; of a text characters.
func drawnData(r *rand.Rand, op, most int) string {
	var s strings.Builder
	for range r.Intn(most + 1) {
		if op == 1 {
			s.WriteString(drawnChar(r))
		} else {
			s.WriteByte(byte(r.Intn(256)))
		}
	}
	return s.String()
}

// byByte cuts s in bytes.
func byByte(s string) []string {
	var l []string
	for i := range len(s) {
		l = append(l, s[i:i+1])
	}
	return l
}

// atOnce cuts s nowhere.
func atOnce(s string) []string { return []string{s} }

// cutter cuts at random in at most so many parts, some of which may be empty.
func cutter(r *rand.Rand, most int) func(string) []string {
	return func(s string) []string {
		var l []string
		for range r.Intn(most) {
			n := r.Intn(len(s) + 1)
			l, s = append(l, s[:n]), s[n:]
		}
		return append(l, s)
	}
}

// ofFrames are the calls by which a message with this Op comes as frames with these data, each cut in pieces.
func ofFrames(op int, data []string, cut func(string) []string) []call {
	var l []call
	for i, s := range data {
		l = append(l, begin(i == len(data)-1, op, len(s)))
		for _, p := range cut(s) {
			l = append(l, piece(p))
		}
		l = append(l, end())
		op = 0
	}
	return l
}

// briefs are messages, short enough to be shown.
func briefs(l []message.Message) string {
	var out []string
	for _, m := range l {
		out = append(out, strconv.Itoa(m.Op)+" "+brief(m.Text))
	}
	return "[" + strings.Join(out, ", ") + "]"
}

// told are the messages that calls tell, and what is wrong behind them.
func told(t *testing.T, limit int, calls []call) (l []message.Message, bad int) {
	t.Helper()
	j := made(t, limit)
	for _, c := range calls {
		a := c.of(j)
		if bad = j.Bad(); a.code != bad {
			t.Errorf("%s: %d, but then %d", c.show(), a.code, bad)
		}
		if a.whole {
			l = append(l, a.m)
		}
	}
	return l, bad
}

// P18.3: messages that may be are told as they are, cut into whatever frames, and these into whatever pieces.
func TestDrawnMessages(t *testing.T) {
	r := rand.New(rand.NewSource(1))
	for range 3000 {
		var calls []call
		var want []message.Message
		limit := 0
		for range 1 + r.Intn(6) {
			m := message.Message{Op: 1 + r.Intn(2)}
			m.Text = drawnData(r, m.Op, []int{3, 10, 200}[r.Intn(3)])
			cut := []func(string) []string{atOnce, byByte, cutter(r, 5)}[r.Intn(3)]
			calls = append(calls, ofFrames(m.Op, cutter(r, 1+r.Intn(8))(m.Text), cut)...)
			want, limit = append(want, m), max(limit, len(m.Text))
		}
		if l, bad := told(t, limit, calls); !slices.Equal(l, want) || bad != 0 {
			t.Fatalf("%s: %s, %d, want %s", show(calls), briefs(l), bad, briefs(want))
		}
	}
}

// P18.3: a message cut in up to four frames at all places, of which each comes at once, or by bytes.
func TestFrames(t *testing.T) {
	for _, m := range []message.Message{{Op: 1, Text: ""}, {Op: 2, Text: ""}, {Op: 1, Text: "a\u00e9\u20ac\U0001f600b"}, {Op: 2, Text: "a\u00e9\xff\xe2\x82b\xf0\x9f\x98"}} {
		s, n := m.Text, len(m.Text)
		for i := range n + 1 {
			for j := i; j <= n; j++ {
				for k := j; k <= n; k++ {
					for _, data := range [][]string{{s}, {s[:i], s[i:]}, {s[:i], s[i:j], s[j:]}, {s[:i], s[i:j], s[j:k], s[k:]}} {
						for _, cut := range []func(string) []string{atOnce, byByte} {
							calls := ofFrames(m.Op, data, cut)
							if l, bad := told(t, n, slices.Repeat(calls, 2)); !slices.Equal(l, []message.Message{m, m}) || bad != 0 {
								t.Fatalf("%s: %s, %d", show(calls), briefs(l), bad)
							}
						}
					}
				}
			}
		}
	}
}

// P18.3: a frame's data, right and wrong ones, cut in up to four pieces at all places.
func TestPieces(t *testing.T) {
	for _, s := range []string{"", "a\u00e9\u20ac\U0001f600b", "a\u00e9\xff\u20ac", "ab\u20ac\xe2\x82", "\xed\xa0\x80ab", "\xf4\x8f\xbf\xbf\xbf", "\xff\xfe\xfd"} {
		n := len(s)
		for _, data := range [][]string{{s}, {"a", s}, {"\xf0\x9f\x98", s}, {s, ""}, {s, "\x80"}} {
			for _, op := range []int{1, 2} {
				want, wantBad := told(t, 99, ofFrames(op, data, atOnce))
				for i := range n + 1 {
					for j := i; j <= n; j++ {
						for k := j; k <= n; k++ {
							calls := ofFrames(op, data, func(x string) []string {
								if x != s {
									return byByte(x)
								}
								return []string{s[:i], s[i:j], s[j:k], s[k:]}
							})
							if l, bad := told(t, 99, calls); !slices.Equal(l, want) || bad != wantBad {
								t.Fatalf("%s: %s, %d, want %s, %d", show(calls), briefs(l), bad, briefs(want), wantBad)
							}
						}
					}
				}
			}
		}
	}
}

// P18.3: messages some of which are wrong, cut in pieces as it is drawn: the same is told, and the same is wrong.
func TestDrawnWrong(t *testing.T) {
	r := rand.New(rand.NewSource(2))
	bads := map[int]int{}
	for range 4000 {
		type cutMessage struct {
			op   int
			data []string
		}
		var l []cutMessage
		for range 1 + r.Intn(4) {
			op := r.Intn(40)
			if op > 0 {
				op = 1 + op%2
			}
			s := []byte(drawnData(r, max(op, 1), 8))
			if len(s) > 0 && r.Intn(8) == 0 {
				s[r.Intn(len(s))] ^= 1 << r.Intn(8)
			}
			if len(s) > 0 && r.Intn(8) == 0 {
				s = s[:len(s)-1]
			}
			l = append(l, cutMessage{op, cutter(r, 4)(string(s))})
		}
		all := func(cut func(string) []string) []call {
			var calls []call
			for _, m := range l {
				calls = append(calls, ofFrames(m.op, m.data, cut)...)
			}
			return calls
		}
		want, wantBad := told(t, 18, all(atOnce))
		bads[wantBad]++
		for _, cut := range []func(string) []string{byByte, cutter(r, 2), cutter(r, 6)} {
			calls := all(cut)
			if l, bad := told(t, 18, calls); !slices.Equal(l, want) || bad != wantBad {
				t.Fatalf("%s: %s, %d, want %s, %d", show(calls), briefs(l), bad, briefs(want), wantBad)
			}
		}
	}
	for _, code := range []int{0, 1002, 1007, 1009} {
		if bads[code] < 100 {
			t.Errorf("of %d there are %d", code, bads[code])
		}
	}
}

// drawnCall is a call, most likely one that may be next.
func drawnCall(r *rand.Rand, p *plain) call {
	s := p.state()
	if r.Intn(120) == 0 {
		return []call{end(), piece(""), begin(r.Intn(2) > 0, r.Intn(4), r.Intn(5)), begin(true, r.Intn(12), 0), piece(string([]byte{byte(r.Intn(256))})), begin(false, 1, []int{-1, math.MinInt, math.MaxInt}[r.Intn(3)])}[r.Intn(6)]
	}
	switch {
	case s.lacks < 0:
		op := 0
		if !s.open {
			op = 1 + r.Intn(2)
		}
		return begin(r.Intn(3) > 0, op, r.Intn(6))
	case s.lacks > 0:
		op := 2
		if p.frames[0].op == 1 && r.Intn(60) > 0 {
			op = 1
		}
		data := drawnData(r, op, 3)
		switch {
		case len(data) > s.lacks && r.Intn(30) > 0: // whole characters
			data = strings.Repeat("x", s.lacks)
		case len(data) > s.lacks && r.Intn(3) > 0: // one that is cut off
			data = data[:s.lacks]
		}
		return piece(data)
	}
	return end()
}

// P18.1 to P18.3: calls as they are drawn, against the plain joiner.
func TestDrawnCalls(t *testing.T) {
	r := rand.New(rand.NewSource(3))
	bads := map[int]int{}
	for range 20000 {
		limit := []int{r.Intn(20), 10 + r.Intn(90), 1 << 40}[r.Intn(3)]
		j, p := made(t, limit), &plain{limit: limit}
		var calls []call
		for behind := 0; len(calls) < 80 && behind < 5; {
			c := drawnCall(r, p)
			calls = append(calls, c)
			a, want := c.of(j), p.of(c)
			if s := stateOf(t, j); a != want || s != p.state() {
				t.Fatalf("limit %d, %s: %v, %v, want %v, %v", limit, show(calls), a, s, want, p.state())
			}
			if p.bad != 0 {
				behind++
			}
		}
		bads[p.bad]++
	}
	for _, code := range []int{0, 1002, 1007, 1009} {
		if bads[code] < 500 {
			t.Errorf("of %d there are %d", code, bads[code])
		}
	}
}

// P18.1, P18.2: many pieces, frames and messages are joined as fast as few; what was told stays as it is.
func TestMany(t *testing.T) {
	const many = 200000
	j := made(t, many)
	var l []message.Message
	for i := range many {
		j.Begin(true, 1+i%2, 2)
		j.Piece("a")
		j.Piece("b")
		m, _, _ := j.End()
		l = append(l, m)
	}
	if want := slices.Repeat([]message.Message{{Op: 1, Text: "ab"}, {Op: 2, Text: "ab"}}, many/2); !slices.Equal(l, want) {
		t.Error("short ones are told wrongly")
	}
	for i := range many {
		j.Begin(i == many-1, min(1, i)^1, 1)
		j.Piece("\xc3\xa9"[i%2 : i%2+1])
		if m, whole, code := j.End(); whole != (i == many-1) || whole && m != (message.Message{Op: 1, Text: strings.Repeat("\u00e9", many/2)}) || code != 0 {
			t.Fatalf("%d: %v", i, answer{m, whole, code})
		}
	}
}
