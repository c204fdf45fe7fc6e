package message_test

import (
	"strconv"
	"unicode/utf8"

	"crier/message"
)

// answer is what a call answers; only End tells of more than a code.
type answer struct {
	m     message.Message
	whole bool
	code  int
}

// String is an answer, short enough to be shown.
func (a answer) String() string {
	return "{" + strconv.Itoa(a.m.Op) + " " + brief(a.m.Text) + "}, " + strconv.FormatBool(a.whole) + ", " + strconv.Itoa(a.code)
}

// state is what Bad, Open and Lacks say.
type state struct {
	bad   int
	open  bool
	lacks int
}

// A call is of Begin, Piece or End.
const (
	callBegin = iota
	callPiece
	callEnd
)

// call is one of a joiner's three.
type call struct {
	kind  int
	last  bool
	op, n int
	s     string
}

func begin(last bool, op, n int) call { return call{kind: callBegin, last: last, op: op, n: n} }
func piece(s string) call             { return call{kind: callPiece, s: s} }
func end() call                       { return call{kind: callEnd} }

// of is what a joiner answers to the call.
func (c call) of(j *message.Joiner) (a answer) {
	switch c.kind {
	case callBegin:
		a.code = j.Begin(c.last, c.op, c.n)
	case callPiece:
		a.code = j.Piece(c.s)
	case callEnd:
		a.m, a.whole, a.code = j.End()
	}
	return a
}

// plainFrame is one that has begun, and what came of it.
type plainFrame struct {
	last  bool
	op, n int
	data  string
	ended bool
}

// plain is what came of a message, frame by frame, and what is wrong.
type plain struct {
	limit  int
	frames []plainFrame
	bad    int
}

// begun is the frame that has begun and not ended; nil, if there is none.
func (p *plain) begun() *plainFrame {
	if n := len(p.frames); n > 0 && !p.frames[n-1].ended {
		return &p.frames[n-1]
	}
	return nil
}

// lengths are those of all frames, together.
func (p *plain) lengths() (sum uint64) {
	for _, f := range p.frames {
		sum += uint64(f.n)
	}
	return sum
}

// text is all data that came.
func (p *plain) text() (s string) {
	for _, f := range p.frames {
		s += f.data
	}
	return s
}

// of is what the call should answer.
func (p *plain) of(c call) answer {
	if p.bad == 0 {
		p.bad = p.wrong(c)
	}
	if p.bad != 0 {
		return answer{code: p.bad}
	}
	switch f := p.begun(); c.kind {
	case callBegin:
		p.frames = append(p.frames, plainFrame{last: c.last, op: c.op, n: c.n})
	case callPiece:
		f.data += c.s
	case callEnd:
		if f.ended = true; f.last {
			a := answer{m: message.Message{Op: p.frames[0].op, Text: p.text()}, whole: true}
			p.frames = nil
			return a
		}
	}
	return answer{}
}

// wrong is what is wrong with the call, if nothing was ahead of it; the chapter's words, one behind the other.
func (p *plain) wrong(c call) int {
	f := p.begun()
	isText := len(p.frames) > 0 && p.frames[0].op == 1
	if c.kind == callBegin {
		switch {
		case f != nil, c.op != 0 && c.op != 1 && c.op != 2, c.op == 0 && len(p.frames) == 0, c.op != 0 && len(p.frames) > 0, c.n < 0:
			return 1002
		case p.lengths()+uint64(c.n) > uint64(p.limit):
			return 1009
		}
		return 0
	}
	switch {
	case f == nil, c.kind == callPiece && len(f.data)+len(c.s) > f.n, c.kind == callEnd && len(f.data) < f.n:
		return 1002
	case c.kind == callPiece && isText && !beginsText(p.text()+c.s), c.kind == callEnd && isText && f.last && !utf8.ValidString(p.text()):
		return 1007
	}
	return 0
}

// beginsText says whether there is a text that begins with s; tried out.
func beginsText(s string) bool {
	for _, behind := range []string{"", "\x80", "\x90", "\xa0", "\x80\x80", "\x90\x80", "\xa0\x80", "\x80\x80\x80", "\x90\x80\x80"} {
		if utf8.ValidString(s + behind) {
			return true
		}
	}
	return false
}

// state is what Bad, Open and Lacks should say.
func (p *plain) state() state {
	if p.bad != 0 {
		return state{p.bad, false, -1}
	}
	if f := p.begun(); f != nil {
		return state{0, true, f.n - len(f.data)}
	}
	return state{0, len(p.frames) > 0, -1}
}
