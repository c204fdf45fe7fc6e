package b64

import (
	"encoding/base64"
	"math"
	"slices"
	"strings"
	"testing"
)

// text is n bytes in which every byte comes at every place of three.
func text(n int) string {
	b := make([]byte, n)
	for i := range b {
		b[i] = byte(i*11 + i>>8*3)
	}
	return string(b)
}

// bothWays tells of s and its letters that do not belong to one another.
func bothWays(t *testing.T, s, letters string) {
	t.Helper()
	if got := Encode(s); got != letters {
		t.Errorf("Encode(%q): %q, not %q", s, got, letters)
	}
	if got, ok := Decode(letters); got != s || !ok {
		t.Errorf("Decode(%q): %q, %v, not %q", letters, got, ok, s)
	}
	if got := Letters(len(s)); got != len(letters) {
		t.Errorf("Letters(%d): %d, not %d", len(s), got, len(letters))
	}
}

// refused tells of letters that are none, and yet were taken or half told.
func refused(t *testing.T, letters string) {
	t.Helper()
	if got, ok := Decode(letters); got != "" || ok {
		t.Errorf("Decode(%q): %q, %v", letters, got, ok)
	}
}

// P2.1: the chapter's examples, and others that are well known.
func TestExamples(t *testing.T) {
	for _, x := range []struct{ text, letters string }{
		{"", ""},
		{"f", "Zg=="},
		{"fo", "Zm8="},
		{"foo", "Zm9v"},
		{"foob", "Zm9vYg=="},
		{"fooba", "Zm9vYmE="},
		{"foobar", "Zm9vYmFy"},
		{"\x00", "AA=="},
		{"\x00\x00", "AAA="},
		{"\x00\x00\x00", "AAAA"},
		{"\xff", "/w=="},
		{"\xff\xff", "//8="},
		{"\xff\xff\xff", "////"},
		{"\xfb\xef\xbe", "++++"},
		{"\x14\xfb\x9c\x03\xd9\x7e", "FPucA9l+"},
		{"the sample nonce", "dGhlIHNhbXBsZSBub25jZQ=="},
	} {
		bothWays(t, x.text, x.letters)
	}
	for _, letters := range []string{"Zh==", "Zg", "Zg=A"} {
		refused(t, letters)
	}
}

// P2.1: each number has its own letter, at each place of four.
func TestAlphabet(t *testing.T) {
	order := "ABCDEFGHIJKLMNOPQRSTUVWXYZabcdefghijklmnopqrstuvwxyz0123456789+/"
	for number := range 64 {
		for place := range 4 {
			bits := number << (18 - 6*place)
			s := string([]byte{byte(bits >> 16), byte(bits >> 8), byte(bits)})
			bothWays(t, s, strings.Repeat("A", place)+order[number:number+1]+strings.Repeat("A", 3-place))
		}
	}
}

// P2.1, P2.2: texts of all lengths about the multiples of three, and long ones.
func TestLengths(t *testing.T) {
	all := text(70000)
	lengths := []int{4095, 4096, 4097, 65535, 65536, 65537, 69998, 69999, 70000}
	for n := range 400 {
		lengths = append(lengths, n)
	}
	for _, n := range lengths {
		bothWays(t, all[:n], base64.StdEncoding.EncodeToString([]byte(all[:n])))
	}
}

// P2.1, P2.2: every byte, at every place of three, in texts that end behind it or go on.
func TestBytes(t *testing.T) {
	for b := range 256 {
		for ahead := range 6 {
			for behind := range 4 {
				s := text(ahead) + string([]byte{byte(b)}) + strings.Repeat("\xa5", behind)
				bothWays(t, s, base64.StdEncoding.EncodeToString([]byte(s)))
			}
		}
	}
}

// P2.1: no text at all is no letters, and these are a text.
func TestNoText(t *testing.T) {
	bothWays(t, "", "")
}

// P2.1: letters whose number is no multiple of four, with = and without, are of no text.
func TestWrongNumber(t *testing.T) {
	all := Encode(text(30))
	for n := range len(all) {
		if n%4 != 0 {
			refused(t, all[:n])
		}
	}
	for _, letters := range []string{"A", "AA", "AAA", "AAAAA", "AA=", "AAA==", "AAAA=", "AAAA==", "AAAAAA=", "=", "==", "==="} {
		refused(t, letters)
	}
}

// P2.1: another number of =, or one at another place.
func TestWrongEnds(t *testing.T) {
	for _, letters := range []string{
		"====", "A===", "=A==", "==A=", "===A",
		"=AAA", "A=AA", "AA=A", "A=A=", "=AA=", "A==A", "==AA", "=A=A",
		"AAAA====", "AAAAA===", "AAAA=AAA", "AAA=AAAA", "AA==AAAA", "AA==AA==", "AAA=AAA=", "=AAAAAAA", "==AAAAAA",
		"AA=\n", "AA=-", "AA-=", "AA= ",
	} {
		refused(t, letters)
	}
}

// P2.1: each byte that is no letter, at each place of eight, with = at the end and without.
func TestWrongLetters(t *testing.T) {
	for b := range 256 {
		isLetter := strings.IndexByte(alphabet, byte(b)) >= 0
		for _, letters := range []string{"AAAAAAAA", "AAAAAAA=", "AAAAAA=="} {
			for place := range len(letters) {
				changed := letters[:place] + string([]byte{byte(b)}) + letters[place+1:]
				if isLetter || changed == letters || changed == "AAAAAAA=" || changed == "AAAAAA==" {
					continue
				}
				refused(t, changed)
			}
		}
	}
}

// P2.1: blanks and ends of lines are no letters, nor are those of other alphabets.
func TestOtherAlphabets(t *testing.T) {
	for _, letters := range []string{
		"Zm9v\nZm9v\n\n\n", "Zm9v\r\n\r\n", "\n\n\n\n", "Zm9v    ", " Zm9vYm", "Zm\t9", "Zm9v\x00\x00\x00\x00",
		"-_-_", "++-+", "//_/", "AAAA,,,,", "AAAA....", "AA~~", "AA..",
	} {
		refused(t, letters)
	}
}

// P2.1: characters of several bytes are no letters, also where a low byte or the whole number of bytes is that of letters.
func TestWideCharacters(t *testing.T) {
	for _, letters := range []string{
		"\u0141\u0141", "AA\u0141", "\u0141AA", "AA\u013d", "A\uff21", "\uff21A", "\u20acA", "\U0001f600", "\U00010041",
		"AAAA\u0141AA", "\ufffdA", "\xffAAA", "AAA\xff", "\xc1\x81AA", "\xed\xa0\x80A", "AA\xc5=", "A\xc5\x81=", "\xc5\x81==",
	} {
		refused(t, letters)
	}
}

// P2.1, P2.2: of all two and three letters with = behind just those are of a text whose left-over bits are noughts.
func TestLeftOverBits(t *testing.T) {
	for first := range 64 {
		for second := range 64 {
			two := alphabet[first:first+1] + alphabet[second:second+1]
			bits := first<<6 | second
			if bits%16 != 0 {
				refused(t, two+"==")
				refused(t, "Zm9v"+two+"==")
			} else {
				bothWays(t, string([]byte{byte(bits >> 4)}), two+"==")
			}
			for third := range 64 {
				three := two + alphabet[third:third+1]
				bits := first<<12 | second<<6 | third
				if bits%4 != 0 {
					refused(t, three+"=")
				} else {
					bothWays(t, string([]byte{byte(bits >> 10), byte(bits >> 2)}), three+"=")
				}
			}
		}
	}
}

// P2.2: of all that can be put together from a few bytes, what Decode takes has just those letters, and it takes what Encode tells.
func TestJustThoseLetters(t *testing.T) {
	bytes := "AQgw8Zh/+=-\n\xc5\x81"
	taken := 0
	put := []string{""}
	for range 4 {
		var longer []string
		for _, s := range put {
			for i := range len(bytes) {
				longer = append(longer, s+bytes[i:i+1])
			}
		}
		put = longer
	}
	for _, letters := range put {
		got, ok := Decode(letters)
		if !ok {
			refused(t, letters)
			continue
		}
		taken++
		if Encode(got) != letters {
			t.Errorf("Decode(%q): %q, whose letters are %q", letters, got, Encode(got))
		}
	}
	// Nine of these bytes are letters; the numbers of A, Q, g, w and 8 end in two noughts, all of them but 8's in four.
	if want := 9*9*9*9 + 9*9*5 + 9*4; taken != want {
		t.Errorf("%d were taken, not %d", taken, want)
	}
}

// P2.1: a fault far behind is found too, and nothing is told of what stands ahead of it.
func TestFaultsFarBehind(t *testing.T) {
	letters := Encode(text(30001))
	for _, at := range []int{0, 1, 20000, len(letters) - 5, len(letters) - 2} {
		for _, wrong := range []string{"=", "\n", "-", "\x80"} {
			if letters[at:at+1] != wrong {
				refused(t, letters[:at]+wrong+letters[at+1:])
			}
		}
	}
	refused(t, letters+letters)
	refused(t, letters+"=")
	refused(t, letters[:len(letters)-1])
}

// P2.1: Letters about its bounds.
func TestLetters(t *testing.T) {
	for _, x := range []struct{ n, letters int }{
		{0, 0}, {1, 4}, {2, 4}, {3, 4}, {4, 8}, {5, 8}, {6, 8}, {7, 12},
		{-1, 0}, {-2, 0}, {-3, 0}, {-4, 0}, {math.MinInt, 0}, {math.MinInt + 1, 0},
		{1<<31 - 1, 2863311532}, {1 << 31, 2863311532},
		{1<<40 - 2, 1466015503700}, {1<<40 - 1, 1466015503700}, {1 << 40, 1466015503704},
		{1<<40 + 1, 0}, {1<<40 + 2, 0}, {1 << 41, 0}, {math.MaxInt - 2, 0}, {math.MaxInt - 1, 0}, {math.MaxInt, 0},
	} {
		if got := Letters(x.n); got != x.letters {
			t.Errorf("Letters(%d): %d, not %d", x.n, got, x.letters)
		}
	}
	for n := range 3000 {
		if got := Letters(n); got != base64.StdEncoding.EncodedLen(n) {
			t.Errorf("Letters(%d): %d", n, got)
		}
	}
}

// P2.1: the same is answered however often it is asked, and whatever was asked in between.
func TestAskedAgain(t *testing.T) {
	var first, second []string
	for _, told := range []*[]string{&first, &second} {
		for n := range 50 {
			letters := Encode(text(n))
			back, _ := Decode(letters)
			Decode("Zh==")
			*told = append(*told, letters, back)
		}
	}
	if !slices.Equal(first, second) {
		t.Error("asked again, another answer")
	}
}
