package frames_test

import (
	"encoding/hex"
	"math"
	"math/rand"
	"runtime"
	"slices"
	"strconv"
	"strings"
	"testing"

	"crier/api"
	"crier/frames"
)

// The keys that tests take: one that turns nothing, and one whose bytes are all unlike, and none a nought.
const (
	noughts = "\x00\x00\x00\x00"
	someKey = "\x37\xfa\x21\x3d"
)

// ofHex are the bytes that are written in digits of sixteen, with blanks between.
func ofHex(s string) string {
	b, err := hex.DecodeString(strings.ReplaceAll(s, " ", ""))
	if err != nil {
		panic(err)
	}
	return string(b)
}

// brief is a text in digits of sixteen that is short enough to be shown.
func brief(s string) string {
	if len(s) > 60 {
		return hex.EncodeToString([]byte(s[:40])) + ".. of " + strconv.Itoa(len(s))
	}
	return hex.EncodeToString([]byte(s))
}

// show are events, short enough to be shown.
func show(l ...frames.Event) string {
	var out []string
	for _, e := range l[:min(len(l), 20)] {
		out = append(out, strings.Join([]string{strconv.Itoa(e.Kind), strconv.FormatBool(e.Fin), strconv.Itoa(e.Op), strconv.Itoa(e.Len), brief(e.Text)}, " "))
	}
	return strconv.Itoa(len(l)) + "[" + strings.Join(out, ", ") + "]"
}

// some are n bytes, of which none is as its neighbours, nor as one that stands 4 or 256 places on.
func some(n int) string {
	out := make([]byte, n)
	for i := range out {
		out[i] = byte(i*7 + i/256)
	}
	return string(out)
}

// forms are the number in the form of one byte, of two more, and of eight more (of the lowest bits, where it is too great for one).
func forms(number uint64) []string {
	eight := make([]byte, 8)
	for i := range eight {
		eight[i] = byte(number >> (56 - 8*i))
	}
	return []string{string([]byte{byte(number & 127)}), "\x7e" + string(eight[6:]), "\x7f" + string(eight)}
}

// headOf is the head with this first byte, this number's form, and this key, if there is one.
func headOf(first byte, form, key string) string {
	second := form[0]
	if key != "" {
		second |= 128
	}
	return string([]byte{first, second}) + form[1:] + key
}

// masked are data with this key's mask.
func masked(key, data string) string {
	out := []byte(data)
	for i := range out {
		out[i] ^= key[i%4]
	}
	return string(out)
}

// tells says whether Next tells these events, one behind the other, and then none, and none again.
func tells(t *testing.T, r *frames.Reader, want ...frames.Event) {
	t.Helper()
	for i, w := range want {
		if e, ok := r.Next(); !ok || e != w {
			t.Errorf("event %d: %s, %v, want %s", i, show(e), ok, show(w))
		}
	}
	for range 2 {
		if e, ok := r.Next(); ok || e != (frames.Event{}) {
			t.Errorf("one more: %s, %v", show(e), ok)
		}
	}
}

// stands says whether Bad and Idle say this.
func stands(t *testing.T, r *frames.Reader, bad, idle bool) {
	t.Helper()
	if r.Bad() != bad || r.Idle() != idle {
		t.Errorf("bad %v, idle %v, want %v, %v", r.Bad(), r.Idle(), bad, idle)
	}
}

// beside says whether a reader that is fed these pieces tells what the plain one tells: all that is there behind each of them, Bad and Idle asked about each event.
func beside(t *testing.T, masked bool, pieces ...string) {
	t.Helper()
	all := strings.Join(pieces, "")
	p, r := &plain{items: plainItems(masked, all)}, frames.New(masked)
	stands(t, r, false, true)
	for i, s := range pieces {
		r.Feed(s)
		p.fed += len(s)
		for more := true; more; {
			var want frames.Event
			stands(t, r, p.bad(), p.idle())
			want, more = p.next()
			if e, ok := r.Next(); ok != more || e != want {
				t.Fatalf("%s, behind piece %d: %s, %v, want %s, %v", brief(all), i, show(e), ok, show(want), more)
			}
		}
		stands(t, r, p.bad(), p.idle())
	}
}

// byByte are the bytes of s, each for itself.
func byByte(s string) []string {
	var l []string
	for i := range len(s) {
		l = append(l, s[i:i+1])
	}
	return l
}

// cut are the pieces of s between places that are drawn; some may be empty.
func cut(r *rand.Rand, s string) []string {
	var l []string
	for s != "" {
		n := min(len(s), r.Intn([]int{2, 4, 20, 1000}[r.Intn(4)]))
		l = append(l, s[:n])
		s = s[n:]
	}
	return l
}

// joined are events; pieces that stand behind one another are one.
func joined(l []frames.Event) []frames.Event {
	var out []frames.Event
	for i, e := range l {
		if i > 0 && e.Kind == frames.Piece && l[i-1].Kind == frames.Piece {
			out[len(out)-1].Text += e.Text
		} else {
			out = append(out, e)
		}
	}
	return out
}

// ofCuts are the events of these pieces, asked for behind each of them, joined.
func ofCuts(masked bool, pieces ...string) []frames.Event {
	r := frames.New(masked)
	var l []frames.Event
	for _, s := range pieces {
		r.Feed(s)
		l = slices.AppendSeq(l, r.All())
	}
	return joined(l)
}

// ofFrame are the events of a frame that may be, joined.
func ofFrame(f api.Frame) []frames.Event {
	l := []frames.Event{begun(f.Fin, f.Op, len(f.Data))}
	if f.Data != "" {
		l = append(l, piece(f.Data))
	}
	return append(l, ended)
}

// P16.1, P16.2: the chapter's examples.
func TestExamples(t *testing.T) {
	r := frames.New(true)
	stands(t, r, false, true)
	tells(t, r)
	r.Feed(ofHex("81 82 00 00 00 00 68"))
	tells(t, r, begun(true, 1, 2), piece("h"))
	r.Feed(ofHex("69"))
	tells(t, r, piece("i"), ended)
	r.Feed(ofHex("89 80 00 00 00 00"))
	tells(t, r, begun(true, 9, 0), ended)
	stands(t, r, false, true)
	for _, s := range []string{"81 02", "83 80 00 00 00 00", "09 80 00 00 00 00"} {
		r := frames.New(true)
		r.Feed(ofHex(s))
		stands(t, r, false, false)
		tells(t, r, failed)
		stands(t, r, true, false)
	}
	if frames.Begin != 1 || frames.Piece != 2 || frames.End != 3 || frames.Fail != 4 {
		t.Error("the kinds have other numbers")
	}
}

// P16.1: heads that may be, and such that may not, as they are written by hand; where k stands, the key stands if frames should be masked.
func TestHeadsByHand(t *testing.T) {
	for s, want := range map[string]frames.Event{
		"00 00 k": begun(false, 0, 0), "80 00 k": begun(true, 0, 0), "01 7d k": begun(false, 1, 125), "82 05 k": begun(true, 2, 5),
		"88 00 k": begun(true, 8, 0), "89 7d k": begun(true, 9, 125), "8a 7d k": begun(true, 10, 125), "88 02 k": begun(true, 8, 2),
		"02 7e 00 7e k": begun(false, 2, 126), "81 7e ff ff k": begun(true, 1, 65535), "80 7f 00 00 00 00 00 01 00 00 k": begun(true, 0, 65536),
		"82 7f 00 00 00 00 80 00 00 00 k": begun(true, 2, 1<<31), "82 7f 7f ff ff ff ff ff ff ff k": begun(true, 2, math.MaxInt64), "01 7f 01 02 03 04 05 06 07 08 k": begun(false, 1, 0x0102030405060708),
		"c1 00 k": failed, "a1 00 k": failed, "91 00 k": failed, "f1 00 k": failed, "99 00 k": failed, // Rsv
		"83 00 k": failed, "87 00 k": failed, "8b 00 k": failed, "8f 00 k": failed, "03 05 k": failed, // Op
		"88 7e 00 7e k": failed, "89 7e ff ff k": failed, "8a 7f 00 00 00 00 00 01 00 00 k": failed, "08 00 k": failed, "09 05 k": failed, "0a 7d k": failed, // control frames
		"82 7e 00 00 k": failed, "82 7e 00 7d k": failed, "89 7e 00 01 k": failed, "82 7f 00 00 00 00 00 00 00 00 k": failed, "82 7f 00 00 00 00 00 00 00 7d k": failed, // forms
		"82 7f 00 00 00 00 00 00 00 7e k": failed, "82 7f 00 00 00 00 00 00 ff ff k": failed,
		"82 7f 80 00 00 00 00 00 00 00 k": failed, "82 7f 80 00 00 00 00 00 00 05 k": failed, "82 7f ff ff ff ff ff ff ff ff k": failed, // the number
	} {
		for _, masked := range []bool{false, true} {
			bare, key := ofHex(strings.TrimSuffix(s, "k")), ""
			if masked {
				key = someKey
				bare = bare[:1] + string([]byte{bare[1] + 128}) + bare[2:]
			}
			begins(t, masked, bare+key, want)
			begins(t, !masked, bare+key, failed)
		}
	}
}

// begins says whether a reader that is fed this head tells this when it is whole, not ahead of that.
func begins(t *testing.T, masked bool, s string, want frames.Event) {
	t.Helper()
	for _, behind := range []string{"", "\x00", "hi"} {
		r := frames.New(masked)
		for i := range len(s) - 1 {
			r.Feed(s[i : i+1])
			stands(t, r, false, false)
			tells(t, r)
			stands(t, r, false, false)
		}
		r.Feed(s[len(s)-1:] + behind)
		stands(t, r, false, false)
		e, ok := r.Next()
		if !ok || e != want {
			t.Errorf("masked %v, %s: %s, %v, want %s", masked, brief(s), show(e), ok, show(want))
		}
		stands(t, r, want == failed, false)
	}
}

// numbers are those about the ends of each form, of what control frames may have, and of what may be said.
var numbers = []uint64{0, 1, 5, 124, 125, 126, 127, 128, 255, 256, 65534, 65535, 65536, 65537, 1<<31 - 1, 1 << 31, 1 << 32, 1<<32 + 5, 1<<63 - 1, 1 << 63, 1<<63 + 1, 1<<63 + 5, math.MaxUint64}

// P16.1: all first bytes with numbers in each form, masked or not, where they should be or not; a byte at a time, and at once.
func TestHeads(t *testing.T) {
	for first := range 256 {
		for _, number := range numbers {
			for _, form := range forms(number) {
				for _, key := range []string{"", someKey} {
					s := headOf(byte(first), form, key) + "Hello"
					for _, masked := range []bool{false, true} {
						beside(t, masked, byByte(s)...)
						beside(t, masked, s)
					}
				}
			}
		}
	}
}

// P16.1: all that the first two bytes may be, with what makes heads of them.
func TestFirstBytes(t *testing.T) {
	for _, behind := range []string{"\x00\x00\x00\x00\x00\x01\x00\x01", "\x01\x00\x00\x00\x00\x00\x00\x01", "\x00\x00\x00\x00\x00\x00\x01\x02"} {
		for first := range 256 {
			for second := range 256 {
				s := string([]byte{byte(first), byte(second)}) + behind + someKey + some(120) + "\x81\x00\x81\x80" + noughts
				beside(t, false, s[:1], s[1:])
				beside(t, true, s[:5], s[5:])
			}
		}
	}
}

// P16.1: all numbers in two bytes.
func TestNumbers(t *testing.T) {
	for number := range 65536 {
		want := begun(true, 2, number)
		if number < 126 {
			want = failed
		}
		r, key := frames.New(false), ""
		if number%2 > 0 {
			r, key = frames.New(true), someKey
		}
		r.Feed(headOf(0x82, forms(uint64(number))[1], key))
		tells(t, r, want)
	}
}

// P16.1, P16.2: behind Fail there is nothing any more, whatever was fed and is fed.
func TestBehindFail(t *testing.T) {
	fine := ofHex("81 82 00 00 00 00 68 69")
	for _, wrong := range []string{"81 02", "83 80 00 00 00 00", "09 80 00 00 00 00", "c1 80 00 00 00 00", "81 fe 00 05 00 00 00 00"} {
		for _, ahead := range []string{"", fine, fine + fine} {
			r := frames.New(true)
			r.Feed(ahead + ofHex(wrong) + fine)
			if l := slices.Collect(r.All()); len(l) != len(ahead)/len(fine)*3+1 || l[len(l)-1] != failed {
				t.Errorf("%s: %s", wrong, show(l...))
			}
			for _, s := range []string{"", fine, ofHex(wrong), "\x89", "\x80" + noughts} {
				stands(t, r, true, false)
				tells(t, r)
				r.Feed(s)
				for e := range r.All() {
					t.Errorf("%s: %s behind Fail", wrong, show(e))
				}
			}
			stands(t, r, true, false)
		}
	}
	// a Fail that is there, but was not told, stops nothing ahead of it
	r := frames.New(true)
	r.Feed(fine + "\x83\x80" + noughts)
	for _, want := range []frames.Event{begun(true, 1, 2), piece("hi"), ended} {
		stands(t, r, false, false)
		if e, _ := r.Next(); e != want {
			t.Errorf("%s, want %s", show(e), show(want))
		}
	}
	stands(t, r, false, false)
	r.Feed(fine)
	tells(t, r, failed)
	stands(t, r, true, false)
}

// heap is how many bytes of memory are kept.
func heap() int {
	runtime.GC()
	runtime.GC()
	var m runtime.MemStats
	runtime.ReadMemStats(&m)
	return int(m.HeapAlloc)
}

// much is more than the tests keep beside it.
const much = 32 << 20

// P16.1: what is fed is let go: behind Fail, and what stood there with it; and what was told.
func TestLetGo(t *testing.T) {
	begin := heap()
	r, bad := frames.New(true), frames.New(true)
	keeps := func(what string) {
		t.Helper()
		if more := heap() - begin; more > much/2 {
			t.Errorf("%s: %d bytes are kept", what, more)
		}
	}
	bad.Feed("\x81\x02" + strings.Repeat("a", much))
	tells(t, bad, failed)
	keeps("with Fail")
	for range 3 {
		bad.Feed(strings.Repeat("a", much))
		keeps("behind Fail")
	}
	tells(t, bad)
	r.Feed(headOf(0x82, forms(much)[2], noughts) + strings.Repeat("a", much))
	for e := range r.All() {
		if e.Kind == frames.Piece && len(e.Text) != much {
			t.Errorf("a piece of %d", len(e.Text))
		}
	}
	keeps("of what was told")
	stands(t, r, false, true)
	stands(t, bad, true, false)
}

// P16.1: each piece is all bytes of the data that are there, in however many pieces they were fed; none is empty; End stands behind all.
func TestPieces(t *testing.T) {
	r := frames.New(false)
	for _, step := range []struct {
		fed  []string
		want []frames.Event
	}{
		{[]string{"\x82"}, nil},
		{[]string{"\x0a"}, []frames.Event{begun(true, 2, 10)}},
		{[]string{"", ""}, nil},
		{[]string{"a"}, []frames.Event{piece("a")}},
		{[]string{"b", "", "cd", "e"}, []frames.Event{piece("bcde")}},
		{nil, nil},
		{[]string{"fghi"}, []frames.Event{piece("fghi")}},
		{[]string{"j\x81"}, []frames.Event{piece("j"), ended}},
		{[]string{"\x00"}, []frames.Event{begun(true, 1, 0), ended}},
		{[]string{"\x01\x01", "a\x80\x01", "b\x8a\x00"}, []frames.Event{begun(false, 1, 1), piece("a"), ended, begun(true, 0, 1), piece("b"), ended, begun(true, 10, 0), ended}},
		{[]string{"\x81\x02h"}, []frames.Event{begun(true, 1, 2), piece("h")}},
		{[]string{"i"}, []frames.Event{piece("i"), ended}},
	} {
		for _, s := range step.fed {
			r.Feed(s)
		}
		tells(t, r, step.want...)
	}
	stands(t, r, false, true)
}

// P16.1: the data are told without their mask, wherever they are cut; that of the next frame begins anew.
func TestMask(t *testing.T) {
	for _, key := range []string{"", noughts, someKey, "\xff\xff\xff\xff", "\x00\x00\x00\x01"} {
		for n := range 13 {
			data, bytes := some(n), some(n)
			if key != "" {
				bytes = masked(key, data)
			}
			s := headOf(0x81, forms(uint64(n))[0], key) + bytes
			want := ofFrame(api.Frame{Fin: true, Op: 1, Data: data})
			want = append(want, want...)
			for i := range 2*len(s) + 1 {
				for j := i; j <= 2*len(s); j++ {
					if l := ofCuts(key != "", (s + s)[:i], (s + s)[i:j], (s + s)[j:]); !slices.Equal(l, want) {
						t.Fatalf("%s cut at %d, %d: %s, want %s", brief(s), i, j, show(l...), show(want...))
					}
				}
			}
		}
	}
}

// P16.2: Bad and Idle about each event and each piece, by hand.
func TestStands(t *testing.T) {
	r := frames.New(false)
	for _, step := range []struct {
		fed  string
		want frames.Event // that is told behind what is fed; none, if its kind is 0
		idle bool
	}{
		{"", frames.Event{}, true}, {"\x81", frames.Event{}, false}, {"\x02", begun(true, 1, 2), false},
		{"h", piece("h"), false}, {"", frames.Event{}, false}, {"i", piece("i"), false}, {"", ended, true}, {"", frames.Event{}, true},
		{"\x89\x00", begun(true, 9, 0), false}, {"", ended, true},
		{"\x82\x01a\x82\x00", begun(true, 2, 1), false}, {"", piece("a"), false}, {"", ended, false}, {"", begun(true, 2, 0), false}, {"", ended, true},
		{"\x81\x00\x81", begun(true, 1, 0), false}, {"", ended, false}, {"", frames.Event{}, false}, {"\x00", begun(true, 1, 0), false}, {"\xff", ended, false}, {"\x80\x00\x00\x00", frames.Event{}, false},
	} {
		was := r.Idle()
		r.Feed(step.fed)
		stands(t, r, false, was && step.fed == "") // what was fed, and was not told
		if step.want.Kind == 0 {
			tells(t, r)
		} else if e, ok := r.Next(); !ok || e != step.want {
			t.Errorf("%s, %v, want %s", show(e), ok, show(step.want))
		}
		stands(t, r, false, step.idle)
	}
	r.Feed("\x00")
	stands(t, r, false, false)
	tells(t, r, failed)
	stands(t, r, true, false)
}

// eight are the bytes of four frames, and what is told of them.
func eight() (string, []frames.Event) {
	s := ofHex("01 02 68 69 89 00 80 01 21 81 00")
	return s, []frames.Event{begun(false, 1, 2), piece("hi"), ended, begun(true, 9, 0), ended, begun(true, 0, 1), piece("!"), ended, begun(true, 1, 0), ended}
}

// taken are up to n events of a walk, which is left behind the last one of them.
func taken(walk func(func(frames.Event) bool), n int) []frames.Event {
	var l []frames.Event
	for e := range walk {
		if l = append(l, e); len(l) == n {
			break
		}
	}
	return l
}

// P16.2: a walk that is left tells the next event later, to whatever asks for it.
func TestWalkLeft(t *testing.T) {
	s, want := eight()
	for i := 1; i <= len(want); i++ {
		for j := 1; i+j <= len(want); j++ {
			r := frames.New(false)
			walk := r.All() // ahead of what it tells
			r.Feed(s)
			l := taken(walk, i)
			stands(t, r, false, i == len(want))
			l = append(l, taken(r.All(), j)...)
			if e, ok := r.Next(); ok {
				l = append(l, e)
			}
			l = append(l, taken(walk, 1)...)
			l = append(l, taken(walk, -1)...)
			if !slices.Equal(l, want) {
				t.Errorf("%d, %d: %s, want %s", i, j, show(l...), show(want...))
			}
			stands(t, r, false, true)
			r.Feed("\x8a\x00") // a walk that had come to its end has more to tell
			if l := taken(walk, -1); !slices.Equal(l, []frames.Event{begun(true, 10, 0), ended}) {
				t.Errorf("once more: %s", show(l...))
			}
		}
	}
}

// P16.2: one walk within another, Next within one, and what is fed within one.
func TestWalkWithin(t *testing.T) {
	s, want := eight()
	for inner := 1; inner <= len(want); inner++ {
		for next := range 3 {
			r := frames.New(false)
			r.Feed(s)
			var l []frames.Event
			for e := range r.All() {
				l = append(l, e)
				l = append(l, taken(r.All(), inner)...)
				for range next {
					if e, ok := r.Next(); ok {
						l = append(l, e)
					}
				}
			}
			if !slices.Equal(l, want) {
				t.Errorf("%d, %d: %s, want %s", inner, next, show(l...), show(want...))
			}
		}
	}
	r := frames.New(false)
	r.Feed(s[:1])
	l := taken(r.All(), -1)
	r.Feed(s[1:2])
	rest := s[2:]
	for e := range r.All() {
		l = append(l, e)
		if rest != "" {
			r.Feed(rest[:1])
			rest = rest[1:]
		}
	}
	if !slices.Equal(joined(l), want[:len(joined(l))]) || len(l) < 5 {
		t.Errorf("fed within: %s, want %s", show(l...), show(want...))
	}
	r.Feed(rest)
	if l = append(l, taken(r.All(), -1)...); !slices.Equal(joined(l), want) {
		t.Errorf("fed within: %s, want %s", show(l...), show(want...))
	}
}

// P16.2: a walk ends behind Fail, and so does one around it.
func TestWalkFail(t *testing.T) {
	r := frames.New(false)
	r.Feed("\x81\x01a\x83\x00\x81\x01b")
	var l []frames.Event
	for e := range r.All() {
		l = append(l, e)
		if e.Kind == frames.Piece {
			l = append(l, taken(r.All(), -1)...)
			stands(t, r, true, false)
		}
	}
	if want := []frames.Event{begun(true, 1, 1), piece("a"), ended, failed}; !slices.Equal(l, want) {
		t.Errorf("%s, want %s", show(l...), show(want...))
	}
}

// R1: a walk that is handed nothing tells nothing, and takes nothing.
func TestNoYield(t *testing.T) {
	r := frames.New(false)
	r.Feed("\x81\x00")
	r.All()(nil)
	stands(t, r, false, false)
	tells(t, r, begun(true, 1, 0), ended)
	var none *frames.Reader
	none.All()(nil)
}

// P16.2: of a nil reader there is nothing, true, false, whatever is fed.
func TestNil(t *testing.T) {
	var r *frames.Reader
	for _, s := range []string{"", "\x81\x00", "\x81\x80" + noughts, "\xff\xff"} {
		r.Feed(s)
		stands(t, r, true, false)
		tells(t, r)
		for e := range r.All() {
			t.Errorf("%s", show(e))
		}
		stands(t, r, true, false)
	}
}

// P16.2: one that New did not make is one of frames that should not be masked.
func TestNotMade(t *testing.T) {
	s, want := eight()
	var r frames.Reader
	stands(t, &r, false, true)
	tells(t, &r)
	r.Feed(s)
	stands(t, &r, false, false)
	if l := slices.Collect(r.All()); !slices.Equal(l, want) {
		t.Errorf("%s, want %s", show(l...), show(want...))
	}
	stands(t, &r, false, true)
	r.Feed("\x81\x80" + noughts)
	tells(t, &r, failed)
	stands(t, &r, true, false)
	n := new(frames.Reader)
	n.Feed("\x81\x82" + noughts + "hi")
	tells(t, n, failed)
	stands(t, n, true, false)
}

// R3: readers know nothing of one another.
func TestTwo(t *testing.T) {
	a, b := frames.New(true), frames.New(false)
	a.Feed("\x81\x82" + someKey)
	b.Feed("\x01\x03ab")
	tells(t, a, begun(true, 1, 2))
	tells(t, b, begun(false, 1, 3), piece("ab"))
	a.Feed(masked(someKey, "hi") + "\x81\x80")
	b.Feed("c")
	tells(t, b, piece("c"), ended)
	tells(t, a, piece("hi"), ended)
	b.Feed("\xff\x00")
	tells(t, b, failed)
	a.Feed(noughts)
	tells(t, a, begun(true, 1, 0), ended)
	stands(t, a, false, true)
	stands(t, b, true, false)
}
