package frame_test

import (
	"encoding/hex"
	"math"
	"math/rand"
	"slices"
	"strconv"
	"strings"
	"testing"

	"crier/api"
	"crier/frame"
)

// noughts is the key that turns nothing.
var noughts [4]byte

// someKey is a key whose bytes are all unlike, and none a nought.
var someKey = [4]byte{0x37, 0xfa, 0x21, 0x3d}

// head is what ReadHead says.
type head struct {
	h  frame.Head
	n  int
	ok bool
}

// told is what Read says.
type told struct {
	f api.Frame
	n int
	e api.Errno
}

// ofHex are the bytes that are written in digits of sixteen, with blanks between.
func ofHex(s string) string {
	b, err := hex.DecodeString(strings.ReplaceAll(s, " ", ""))
	if err != nil {
		panic(err)
	}
	return string(b)
}

// brief is a text in digits of sixteen that is short enough to be shown.
func brief(s string) string {
	if len(s) > 60 {
		return hex.EncodeToString([]byte(s[:40])) + ".." + hex.EncodeToString([]byte(s[len(s)-10:])) + " of " + strconv.Itoa(len(s))
	}
	return hex.EncodeToString([]byte(s))
}

// show is a frame that is short enough to be shown.
func show(f api.Frame) string {
	s := "Rsv " + strconv.Itoa(f.Rsv) + " Op " + strconv.Itoa(f.Op) + " Key " + brief(string(f.Key[:])) + " Data " + brief(f.Data)
	if f.Fin {
		s = "Fin " + s
	}
	if f.Masked {
		s = "Masked " + s
	}
	return s
}

// String is what Read says, short enough to be shown.
func (x told) String() string {
	return "{" + show(x.f) + "}, " + strconv.Itoa(x.n) + ", " + strconv.Itoa(int(x.e))
}

// some are n bytes, of which none is as its neighbours, nor as one that stands 4 or 256 places on.
func some(n int) string {
	out := make([]byte, n)
	for i := range out {
		out[i] = byte(i*7 + i/256)
	}
	return string(out)
}

// plainKey is what a byte of the data is masked with, at a place that is not below 0.
func plainKey(key [4]byte, at uint64) byte {
	switch at & 3 {
	case 0:
		return key[0]
	case 1:
		return key[1]
	case 2:
		return key[2]
	}
	return key[3]
}

// plainMask is what Mask should say.
func plainMask(key [4]byte, at int, s string) string {
	var out strings.Builder
	for i := 0; i < len(s); i++ {
		if at < 0 {
			out.WriteByte(s[i])
		} else {
			out.WriteByte(s[i] ^ plainKey(key, uint64(at)+uint64(i)))
		}
	}
	return out.String()
}

// bits are the lowest ones of a number, as noughts and ones.
func bits(number uint64, many int) string {
	s := strconv.FormatUint(number, 2)
	return strings.Repeat("0", max(0, many-len(s))) + s
}

// bit is one, as nought or one.
func bit(is bool) string {
	if is {
		return "1"
	}
	return "0"
}

// ofBits are the bytes of noughts and ones.
func ofBits(s string) string {
	var out []byte
	for ; s != ""; s = s[8:] {
		b, err := strconv.ParseUint(s[:8], 2, 8)
		if err != nil {
			panic(err)
		}
		out = append(out, byte(b))
	}
	return string(out)
}

// toBits are the noughts and ones of bytes.
func toBits(s string) string {
	var out strings.Builder
	for i := range len(s) {
		out.WriteString(bits(uint64(s[i]), 8))
	}
	return out.String()
}

// plainForms is the number in each form that can say it, the shortest one first, as noughts and ones.
func plainForms(number uint64) []string {
	var l []string
	if number <= 125 {
		l = append(l, bits(number, 7))
	}
	if number <= 65535 {
		l = append(l, bits(126, 7)+bits(number, 16))
	}
	return append(l, bits(127, 7)+bits(number, 64))
}

// plainHeads are the bytes of f's head, with this number in each form that can say it, the least one first.
func plainHeads(f api.Frame, number uint64) []string {
	var l []string
	for _, form := range plainForms(number) {
		s := ofBits(bit(f.Fin) + bits(uint64(f.Rsv), 3) + bits(uint64(f.Op), 4) + bit(f.Masked) + form)
		if f.Masked {
			s += string(f.Key[:])
		}
		l = append(l, s)
	}
	return l
}

// plainData are f's data as they stand in its bytes.
func plainData(f api.Frame) string {
	if f.Masked {
		return plainMask(f.Key, 0, f.Data)
	}
	return f.Data
}

// plainRight says whether f may be.
func plainRight(f api.Frame) bool {
	for _, b := range f.Key {
		if !f.Masked && b > 0 {
			return false
		}
	}
	return f.Rsv>>3 == 0 && f.Op>>4 == 0
}

// plainHead is what ReadHead should say: the bits are cut off one after another.
func plainHead(s string) head {
	rest, short := toBits(s[:min(len(s), 14)]), false
	cut := func(many int) uint64 {
		if len(rest) < many {
			short = true
			return 0
		}
		number, _ := strconv.ParseUint(rest[:many], 2, 64)
		rest = rest[many:]
		return number
	}
	x := head{n: 2, ok: true}
	x.h.Fin, x.h.Rsv, x.h.Op, x.h.Masked, x.h.Len, x.h.Least = cut(1) == 1, int(cut(3)), int(cut(4)), cut(1) == 1, cut(7), true
	switch x.h.Len {
	case 126:
		x.h.Len, x.n = cut(16), 4
		x.h.Least = x.h.Len > 125
	case 127:
		x.h.Len, x.n = cut(64), 10
		x.h.Least = x.h.Len > 65535
	}
	if x.h.Masked {
		for i := range x.h.Key {
			x.h.Key[i] = byte(cut(8))
		}
		x.n += 4
	}
	if short {
		return head{}
	}
	return x
}

// plainRead is what Read should say.
func plainRead(s string) told {
	x := plainHead(s)
	if !x.ok {
		return told{e: api.ErrShort}
	}
	if x.h.Len >= 2147483648 {
		return told{e: api.ErrLong}
	}
	end := x.n + int(x.h.Len)
	if end > len(s) {
		return told{e: api.ErrShort}
	}
	f := api.Frame{Fin: x.h.Fin, Rsv: x.h.Rsv, Op: x.h.Op, Masked: x.h.Masked, Key: x.h.Key, Data: s[x.n:end]}
	f.Data = plainData(f)
	return told{f, end, api.OK}
}

// heads says whether ReadHead of s says this.
func heads(t *testing.T, s string, want head) {
	t.Helper()
	h, n, ok := frame.ReadHead(s)
	if got := (head{h, n, ok}); got != want {
		t.Errorf("ReadHead(%s): %v, want %v", brief(s), got, want)
	}
}

// reads says whether Read of s says this.
func reads(t *testing.T, s string, want told) {
	t.Helper()
	f, n, e := frame.Read(s)
	if got := (told{f, n, e}); got != want {
		t.Errorf("Read(%s): %v, want %v", brief(s), got, want)
	}
}

// mayNot says whether f has no bytes.
func mayNot(t *testing.T, f api.Frame) {
	t.Helper()
	if s, e := frame.Bytes(f); s != "" || e != api.ErrArg {
		t.Errorf("Bytes(%s): %s, %d", show(f), brief(s), e)
	}
}

// mayBe says whether f's bytes are those that it should have, and f is read of them, and of those with its number in another form.
func mayBe(t *testing.T, f api.Frame) {
	t.Helper()
	for i, ahead := range plainHeads(f, uint64(len(f.Data))) {
		s := ahead + plainData(f)
		if i == 0 {
			written(t, f, s)
		}
		h := frame.Head{Fin: f.Fin, Rsv: f.Rsv, Op: f.Op, Masked: f.Masked, Key: f.Key, Len: uint64(len(f.Data)), Least: i == 0}
		is(t, s, len(ahead), f, h)
	}
}

// written says whether f's bytes are these.
func written(t *testing.T, f api.Frame, want string) {
	t.Helper()
	if s, e := frame.Bytes(f); s != want || e != api.OK {
		t.Errorf("Bytes(%s): %s, %d, want %s", show(f), brief(s), e, brief(want))
	}
}

// is says whether of all of s the frame f is read, and of its first n bytes the head h, whatever stands behind; and of their beginnings, that they are too short.
func is(t *testing.T, s string, n int, f api.Frame, h frame.Head) {
	t.Helper()
	for _, behind := range []string{"", "\x00", "\xff", "\x81\x02hi"} {
		heads(t, s[:n]+behind, head{h, n, true})
		heads(t, s+behind, head{h, n, true})
		reads(t, s+behind, told{f, len(s), api.OK})
	}
	for i := range len(s) {
		if i > n+5 && i < len(s)-5 && i%1000 > 0 {
			continue
		}
		if i < n {
			heads(t, s[:i], head{})
		} else {
			heads(t, s[:i], head{h, n, true})
		}
		reads(t, s[:i], told{e: api.ErrShort})
	}
}

// masks says whether Mask says what it should.
func masks(t *testing.T, key [4]byte, at int, s string) {
	t.Helper()
	if got, want := frame.Mask(key, at, s), plainMask(key, at, s); got != want {
		t.Errorf("Mask(%x, %d, %s): %s, want %s", key, at, brief(s), brief(got), brief(want))
	}
}

// P15.1, P15.2: the chapter's examples.
func TestExamples(t *testing.T) {
	f, s := api.Frame{Fin: true, Op: 1, Data: "Hello"}, ofHex("81 05 48 65 6c 6c 6f")
	written(t, f, s)
	reads(t, s, told{f, 7, api.OK})
	f.Masked, f.Key = true, [4]byte{0x37, 0xfa, 0x21, 0x3d}
	s = ofHex("81 85 37 fa 21 3d 7f 9f 4d 51 58")
	written(t, f, s)
	reads(t, s, told{f, 11, api.OK})
	heads(t, s, head{frame.Head{Fin: true, Op: 1, Masked: true, Key: f.Key, Len: 5, Least: true}, 6, true})
	heads(t, ofHex("81 7e 00 05"), head{frame.Head{Fin: true, Op: 1, Len: 5}, 4, true})
	reads(t, ofHex("81 7e 00 05"), told{e: api.ErrShort})
	reads(t, ofHex("81 7e 00 05 48 65 6c 6c 6f"), told{api.Frame{Fin: true, Op: 1, Data: "Hello"}, 9, api.OK})
}

// P15.2: the numbers of Op that have a name, as they stand in the first byte.
func TestNames(t *testing.T) {
	for op, first := range map[int]string{api.OpMore: "80", api.OpText: "81", api.OpBinary: "82", api.OpClose: "88", api.OpPing: "89", api.OpPong: "8a"} {
		written(t, api.Frame{Fin: true, Op: op}, ofHex(first+"00"))
	}
}

// far are numbers far from those that Rsv and Op may be, whose lowest bits are theirs.
var far = []int{math.MinInt, math.MinInt + 1, math.MaxInt, -1 << 32, 1<<32 + 1, 1 << 31, -1 << 31, 256, 257, 1024, -256, -255, 128, 64, 112}

// P15.2: which numbers Rsv and Op may be.
func TestRight(t *testing.T) {
	numbers := slices.Clone(far)
	for number := -20; number < 40; number++ {
		numbers = append(numbers, number)
	}
	for _, rsv := range numbers {
		for _, op := range numbers {
			for _, fin := range []bool{false, true} {
				for _, f := range []api.Frame{{}, {Masked: true}, {Data: "hi"}, {Masked: true, Key: someKey, Data: "hi"}} {
					f.Fin, f.Rsv, f.Op = fin, rsv, op
					if rsv >= 0 && rsv < 8 && op >= 0 && op < 16 {
						mayBe(t, f)
					} else {
						mayNot(t, f)
					}
				}
			}
		}
	}
}

// P15.2: a key that is not four noughts may be only where a frame is Masked, wherever its bytes are none.
func TestKeys(t *testing.T) {
	for i := range 4 {
		for b := 1; b < 256; b++ {
			var key [4]byte
			key[i] = byte(b)
			for _, data := range []string{"", "a", "abcde"} {
				mayNot(t, api.Frame{Fin: true, Op: 1, Key: key, Data: data})
				mayNot(t, api.Frame{Rsv: 8, Op: 1, Key: key, Data: data})
				mayBe(t, api.Frame{Fin: true, Op: 1, Masked: true, Key: key, Data: data})
			}
		}
	}
	for _, key := range [][4]byte{{1, 0, 0, 255}, {255, 255, 255, 255}, {0, 1, 1, 0}, someKey} {
		mayNot(t, api.Frame{Key: key})
		mayBe(t, api.Frame{Masked: true, Key: key})
	}
	// a key of noughts is one
	for _, data := range []string{"", "Hello", some(126), some(65536)} {
		mayBe(t, api.Frame{Op: 2, Masked: true, Data: data})
		mayBe(t, api.Frame{Op: 2, Data: data})
	}
	written(t, api.Frame{Op: 2, Masked: true, Data: "Hi"}, ofHex("02 82 00 00 00 00 48 69"))
}

// P15.1, P15.2: how the bytes begin, about the ends of each form of the number.
func TestBounds(t *testing.T) {
	for n, ahead := range map[int]string{
		0: "82 00", 1: "82 01", 124: "82 7c", 125: "82 7d",
		126: "82 7e 00 7e", 127: "82 7e 00 7f", 128: "82 7e 00 80", 255: "82 7e 00 ff", 256: "82 7e 01 00", 65534: "82 7e ff fe", 65535: "82 7e ff ff",
		65536: "82 7f 00 00 00 00 00 01 00 00", 65537: "82 7f 00 00 00 00 00 01 00 01", 1<<20 + 2: "82 7f 00 00 00 00 00 10 00 02",
	} {
		f := api.Frame{Fin: true, Op: 2, Data: some(n)}
		written(t, f, ofHex(ahead)+f.Data)
		mayBe(t, f)
		f.Masked, f.Key = true, someKey
		s := []byte(ofHex(ahead + "37 fa 21 3d"))
		s[1] += 128
		written(t, f, string(s)+plainMask(someKey, 0, f.Data))
		mayBe(t, f)
	}
}

// P15.1, P15.2, P15.3: all lengths up to 300, and those about where the number's bytes and forms end.
func TestLengths(t *testing.T) {
	var l []int
	for n := range 300 {
		l = append(l, n)
	}
	for _, about := range []int{512, 32767, 65535, 131071} {
		for n := about - 2; n <= about+2; n++ {
			l = append(l, n)
		}
	}
	for _, n := range l {
		mayBe(t, api.Frame{Fin: n%2 == 0, Rsv: n % 8, Op: n % 16, Data: some(n)})
		mayBe(t, api.Frame{Fin: n%3 == 0, Rsv: n % 7, Op: n % 15, Masked: true, Key: someKey, Data: some(n)})
	}
}

// P15.1: all that the first two bytes may be, with all beginnings of what stands behind them.
func TestFirstBytes(t *testing.T) {
	behind := ofHex("00 00 00 00 00 00 00 05 a1 b2 c3 d4") + "Hello"
	for first := range 256 {
		for second := range 256 {
			s := string([]byte{byte(first), byte(second)}) + behind
			if first%16 != 1 { // of the others, those that are about the ends of the head
				n := plainHead(s).n
				heads(t, s[:n-1], head{})
				heads(t, s[:n], plainHead(s))
				reads(t, s, plainRead(s))
				continue
			}
			for i := range len(s) + 1 {
				heads(t, s[:i], plainHead(s[:i]))
				reads(t, s[:i], plainRead(s[:i]))
			}
		}
	}
}

// P15.1: all numbers in two bytes, in two and in eight, masked and not.
func TestNumbers(t *testing.T) {
	f := api.Frame{Fin: true, Op: 1}
	for number := range 65536 {
		two := string([]byte{byte(number / 256), byte(number % 256)})
		h := frame.Head{Fin: true, Op: 1, Len: uint64(number), Least: number > 125}
		heads(t, "\x81\x7e"+two, head{h, 4, true})
		h.Masked, h.Key = true, someKey
		heads(t, "\x81\xfe"+two+string(someKey[:]), head{h, 8, true})
		h.Least = false
		heads(t, "\x81\xff\x00\x00\x00\x00\x00\x00"+two+string(someKey[:]), head{h, 14, true})
		h.Masked, h.Key = false, noughts
		heads(t, "\x81\x7f\x00\x00\x00\x00\x00\x00"+two, head{h, 10, true})
		if number < 1000 {
			f.Data = some(number)
			is(t, "\x81\x7e"+two+f.Data, 4, f, frame.Head{Fin: true, Op: 1, Len: uint64(number), Least: number > 125})
			is(t, "\x81\x7f\x00\x00\x00\x00\x00\x00"+two+f.Data, 10, f, h)
		}
	}
}

// great are numbers that need eight bytes, about the ends of others.
func great() []uint64 {
	l := []uint64{65536, math.MaxUint64, 0x0102030405060708, 0xf0e0d0c0b0a09080}
	for i := 17; i < 64; i++ {
		n := uint64(1) << i
		l = append(l, n-1, n, n+1, n+5)
	}
	for i := range 8 {
		for b := range uint64(256) {
			if n := b << (8 * i); n >= 65536 {
				l = append(l, n)
			}
		}
	}
	return l
}

// P15.1: numbers in eight bytes, also those whose uppermost bit is 1.
func TestGreat(t *testing.T) {
	for _, number := range great() {
		for _, f := range []api.Frame{{}, {Fin: true, Rsv: 7, Op: 15, Masked: true, Key: someKey}} {
			l := plainHeads(f, number)
			if len(l) != 1 {
				t.Fatalf("%d has %d forms", number, len(l))
			}
			h := frame.Head{Fin: f.Fin, Rsv: f.Rsv, Op: f.Op, Masked: f.Masked, Key: f.Key, Len: number, Least: true}
			for _, behind := range []string{"", "\x00", "Hello"} {
				heads(t, l[0]+behind, head{h, len(l[0]), true})
			}
			for i := range len(l[0]) {
				heads(t, l[0][:i], head{})
			}
		}
	}
}

// P15.2: a number above 2^31 - 1 is too long, one up to that too short where data lack; but ahead of both comes a head that is not whole.
func TestErrors(t *testing.T) {
	for _, number := range append(great(), 1<<31-2, 1<<31-1, 1<<31, 1<<31+1, 1<<32-1, 1<<32, 1<<32+1, 1<<32+5, 1<<63-1, 1<<63, 1<<63+5, math.MaxUint64) {
		want := api.ErrShort
		if number > 2147483647 {
			want = api.ErrLong
		}
		for _, f := range []api.Frame{{Fin: true, Op: 1}, {Rsv: 7, Op: 15}, {Fin: true, Op: 8, Masked: true}, {Fin: true, Op: 2, Masked: true, Key: someKey}} {
			s := plainHeads(f, number)[0]
			for _, behind := range []string{"", "\x00", "Hello", some(100)} {
				reads(t, s+behind, told{e: want})
			}
			for i := range len(s) {
				reads(t, s[:i], told{e: api.ErrShort})
			}
		}
	}
	for s, want := range map[string]api.Errno{
		"": api.ErrShort, "81": api.ErrShort, "81 05": api.ErrShort, "81 05 48 65 6c 6c": api.ErrShort, "81 7e 00": api.ErrShort, "81 7e ff ff": api.ErrShort,
		"81 ff 80 00 00 00 00 00 00 00 01 02 03": api.ErrShort, "81 ff 80 00 00 00 00 00 00 00 01 02 03 04": api.ErrLong,
		"81 7f ff ff ff ff ff ff ff": api.ErrShort, "81 7f ff ff ff ff ff ff ff ff": api.ErrLong,
		"81 7f 00 00 00 00 7f ff ff ff": api.ErrShort, "81 7f 00 00 00 00 80 00 00 00": api.ErrLong, "81 7f 00 00 00 01 00 00 00 00": api.ErrLong, "81 7f 80 00 00 00 00 00 00 00": api.ErrLong,
	} {
		reads(t, ofHex(s), told{e: want})
	}
}

// places are those of each kind modulo 4, and those at the ends of what a number may be.
func places() []int {
	l := []int{1 << 20, 1<<31 - 1, 1 << 31, 1<<32 - 1, 1 << 32, -1, -2, -3, -4, -5, math.MinInt, math.MinInt + 1, -1 << 31, -1 << 32}
	for i := range 12 {
		l = append(l, i, math.MaxInt-i)
	}
	return l
}

// P15.1: Mask at all kinds of places, of all bytes, by all bytes of a key.
func TestMask(t *testing.T) {
	for _, at := range places() {
		for _, key := range [][4]byte{noughts, someKey, {0, 0, 0, 1}, {255, 255, 255, 255}, {1, 2, 4, 8}} {
			for _, s := range []string{"", "a", "ab", "abc", "abcd", "abcde", "abcdefghi", "\x37\xfa\x21\x3d", "\xc3\xa9\xff\x00", some(1000)} {
				masks(t, key, at, s)
			}
		}
	}
	for key := range 256 {
		for b := range 256 {
			for at := range 4 {
				var four [4]byte
				four[at] = byte(key)
				masks(t, four, at, string([]byte{byte(b)}))
				masks(t, four, at+1, string([]byte{byte(b)}))
			}
		}
	}
}

// P15.1: Mask by examples that are counted by hand.
func TestMaskExamples(t *testing.T) {
	for _, c := range []struct {
		at   int
		want string
	}{
		{0, "7f 9f 4d 51 58"}, {4, "7f 9f 4d 51 58"}, {400, "7f 9f 4d 51 58"},
		{1, "b2 44 51 5b 95"}, {2, "69 58 5b 96 4e"}, {3, "75 52 96 4d 52"}, {math.MaxInt, "75 52 96 4d 52"},
		{-1, "48 65 6c 6c 6f"}, {-4, "48 65 6c 6c 6f"}, {math.MinInt, "48 65 6c 6c 6f"},
	} {
		if got := frame.Mask(someKey, c.at, "Hello"); got != ofHex(c.want) {
			t.Errorf("at %d: %s, want %s", c.at, brief(got), c.want)
		}
	}
}

// P15.3: masked twice a text is as it was; cut in two, it is as it is in one.
func TestMaskTwice(t *testing.T) {
	r := rand.New(rand.NewSource(1))
	for _, at := range places() {
		for range 50 {
			key, s := drawnKey(r), drawnText(r, 40)
			once := frame.Mask(key, at, s)
			if twice := frame.Mask(key, at, once); twice != s {
				t.Errorf("%x at %d: of %s twice %s", key, at, brief(s), brief(twice))
			}
			if at > math.MaxInt-len(s) || at < 0 && at+len(s) >= 0 { // there is no place of the cut, or another kind of it
				continue
			}
			for cut := range len(s) + 1 {
				if parts := frame.Mask(key, at, s[:cut]) + frame.Mask(key, at+cut, s[cut:]); parts != once {
					t.Errorf("%x at %d: %s cut at %d is %s, want %s", key, at, brief(s), cut, brief(parts), brief(once))
				}
			}
		}
	}
}

// drawnKey is any, and at times of noughts.
func drawnKey(r *rand.Rand) (key [4]byte) {
	if r.Intn(10) > 0 {
		r.Read(key[:])
	}
	return key
}

// drawnText has bytes of any kind, not more than may be.
func drawnText(r *rand.Rand, most int) string {
	out := make([]byte, r.Intn(most+1))
	r.Read(out)
	return string(out)
}

// drawn is any frame, mostly one that may be.
func drawn(r *rand.Rand) api.Frame {
	most := []int{5, 5, 200, 200, 200, 70000}[r.Intn(6)]
	f := api.Frame{Fin: r.Intn(2) > 0, Rsv: r.Intn(8), Op: r.Intn(16), Masked: r.Intn(2) > 0, Data: drawnText(r, most)}
	if f.Masked || r.Intn(10) == 0 {
		f.Key = drawnKey(r)
	}
	if r.Intn(10) == 0 {
		f.Rsv = r.Intn(30) - 10
	}
	if r.Intn(10) == 0 {
		f.Op = r.Intn(50) - 15
	}
	return f
}

// P15.2, P15.3: frames that are drawn, against the plain reading; and they are told one behind the other of all their bytes.
func TestDrawn(t *testing.T) {
	r := rand.New(rand.NewSource(2))
	var l []api.Frame
	all, wrongs := "", 0
	for range 3000 {
		f := drawn(r)
		if !plainRight(f) {
			mayNot(t, f)
			wrongs++
			continue
		}
		s, e := frame.Bytes(f)
		if want := plainHeads(f, uint64(len(f.Data)))[0] + plainData(f); s != want || e != api.OK {
			t.Fatalf("Bytes(%s): %s, %d, want %s", show(f), brief(s), e, brief(want))
		}
		reads(t, s+drawnText(r, 20), told{f, len(s), api.OK})
		reads(t, s[:r.Intn(len(s))], told{e: api.ErrShort})
		if len(s) < 500 {
			l, all = append(l, f), all+s
		}
	}
	if len(l) < 1000 || wrongs < 300 {
		t.Fatalf("too few were short, or wrong: %d, %d", len(l), wrongs)
	}
	for _, f := range l {
		got, n, e := frame.Read(all)
		if got != f || e != api.OK {
			t.Fatalf("%s, %d, want %s", show(got), e, show(f))
		}
		all = all[n:]
	}
	if all != "" {
		t.Errorf("%d bytes are left", len(all))
	}
}

// P15.1, P15.2: bytes that are drawn, against the plain reading; what is read of them has bytes, which are they if the number is in the least form.
func TestDrawnBytes(t *testing.T) {
	r := rand.New(rand.NewSource(3))
	seen := map[api.Errno]int{}
	for range 100000 {
		b := []byte(drawnText(r, 30))
		if len(b) > 1 && r.Intn(2) > 0 { // mostly there are too few data else
			b[1] = b[1]&128 | []byte{0, 1, 5, 10, 126, 127}[r.Intn(6)]
		}
		if len(b) > 9 && r.Intn(2) > 0 {
			clear(b[2 : r.Intn(8)+2])
		}
		s := string(b)
		want := plainRead(s)
		heads(t, s, plainHead(s))
		reads(t, s, want)
		seen[want.e]++
		if want.e != api.OK {
			continue
		}
		again, e := frame.Bytes(want.f)
		if e != api.OK || plainHead(s).h.Least != (again == s[:want.n]) {
			t.Errorf("Bytes(%s): %s, %d, of %s", show(want.f), brief(again), e, brief(s))
		}
		reads(t, again, told{want.f, len(again), api.OK})
	}
	for _, e := range []api.Errno{api.OK, api.ErrShort, api.ErrLong} {
		if seen[e] < 3000 {
			t.Errorf("too few were answered by %d: %d", e, seen[e])
		}
	}
}
