package sha

import (
	"crypto/sha1"
	"encoding/hex"
	"strings"
	"testing"
)

const emptySum = "da39a3ee5e6b4b0d3255bfef95601890afd80709"

func written(sum [20]byte) string { return hex.EncodeToString(sum[:]) }

// text is n bytes of which no two neighbouring blocks are the same.
func text(n int) string {
	b := make([]byte, n)
	for i := range b {
		b[i] = byte(i*7 + i/64*13 + i>>11)
	}
	return string(b)
}

// P1.1: the chapter's examples, and two longer texts whose sums are well known.
func TestExamples(t *testing.T) {
	for _, x := range []struct{ text, sum string }{
		{"abc", "a9993e364706816aba3e25717850c26c9cd0d89d"},
		{"", emptySum},
		{"abcdbcdecdefdefgefghfghighijhijkijkljklmklmnlmnomnopnopq", "84983e441c3bd26ebaae4aa1f95129e5e54670f1"},
		{"abcdefghbcdefghicdefghijdefghijkefghijklfghijklmghijklmnhijklmnoijklmnopjklmnopqklmnopqrlmnopqrsmnopqrstnopqrstu", "a49b2446a02c645bf419f995b67091253a04a259"},
		{strings.Repeat("a", 1000000), "34aa973cd4c4daa4f61eeb2bdbad27316534016f"},
	} {
		if got := written(Sum(x.text)); got != x.sum {
			t.Errorf("Sum of %d bytes: %s, not %s", len(x.text), got, x.sum)
		}
		h := New()
		h.Write(x.text)
		if got := written(h.Sum()); got != x.sum || h.Len() != len(x.text) {
			t.Errorf("a hash of %d bytes: %s, not %s; Len %d", len(x.text), got, x.sum, h.Len())
		}
	}
}

// P1.1: texts of all lengths about one, two and three blocks, and about where their padding needs a block more.
func TestLengths(t *testing.T) {
	all := text(70000)
	lengths := []int{4095, 4096, 4097, 65535, 65536, 65537, 70000}
	for n := range 260 {
		lengths = append(lengths, n)
	}
	for _, n := range lengths {
		want := sha1.Sum([]byte(all[:n]))
		if got := Sum(all[:n]); got != want {
			t.Errorf("Sum of %d bytes: %x, not %x", n, got, want)
		}
	}
}

// P1.1: every byte counts, at every place of a block.
func TestBytes(t *testing.T) {
	for b := range 256 {
		for _, ahead := range []int{0, 1, 2, 3, 54, 55, 56, 63, 64} {
			s := text(ahead) + string([]byte{byte(b)})
			if want := sha1.Sum([]byte(s)); Sum(s) != want {
				t.Errorf("byte %d behind %d others", b, ahead)
			}
		}
	}
}

// P1.1: what stands behind a text; the number of bits has 8 bytes, also of texts too long to be tried here.
func TestPadding(t *testing.T) {
	for _, x := range []struct {
		n, noughts int
		length     string
	}{
		{0, 55, "\x00\x00\x00\x00\x00\x00\x00\x00"},
		{1, 54, "\x00\x00\x00\x00\x00\x00\x00\x08"},
		{54, 1, "\x00\x00\x00\x00\x00\x00\x01\xb0"},
		{55, 0, "\x00\x00\x00\x00\x00\x00\x01\xb8"},
		{56, 63, "\x00\x00\x00\x00\x00\x00\x01\xc0"},
		{63, 56, "\x00\x00\x00\x00\x00\x00\x01\xf8"},
		{64, 55, "\x00\x00\x00\x00\x00\x00\x02\x00"},
		{1<<29 - 1, 56, "\x00\x00\x00\x00\xff\xff\xff\xf8"},
		{1 << 29, 55, "\x00\x00\x00\x01\x00\x00\x00\x00"},
		{1<<31 - 1, 56, "\x00\x00\x00\x03\xff\xff\xff\xf8"},
	} {
		want := "\x80" + strings.Repeat("\x00", x.noughts) + x.length
		if got := padding(x.n); got != want {
			t.Errorf("behind %d bytes: %x, not %x", x.n, got, want)
		}
	}
}

// P1.1: Sum leaves the hash as it is, and Len counts what was written, however often they are asked.
func TestAskedInBetween(t *testing.T) {
	all := text(300)
	h := New()
	for i := range len(all) {
		for range 2 {
			if h.Len() != i || h.Sum() != Sum(all[:i]) {
				t.Fatalf("behind %d bytes: %x, Len %d", i, h.Sum(), h.Len())
			}
		}
		h.Write(all[i : i+1])
		h.Write("")
	}
	if h.Len() != len(all) || h.Sum() != sha1.Sum([]byte(all)) {
		t.Errorf("behind all: %x, Len %d", h.Sum(), h.Len())
	}
}

// P1.1: a new hash is of no text, and stays so when nothing is written.
func TestNoText(t *testing.T) {
	h := New()
	for range 3 {
		if written(h.Sum()) != emptySum || h.Len() != 0 {
			t.Fatalf("no text: %x, Len %d", h.Sum(), h.Len())
		}
		h.Write("")
	}
	h.Write("abc")
	if h.Sum() != Sum("abc") || h.Len() != 3 {
		t.Errorf("abc behind no text: %x, Len %d", h.Sum(), h.Len())
	}
}

// P1.1: a nil hash takes nothing.
func TestNilHash(t *testing.T) {
	var h *Hash
	for _, s := range []string{"", "x", text(200)} {
		h.Write(s)
		if written(h.Sum()) != emptySum || h.Len() != 0 {
			t.Errorf("behind %d bytes: %x, Len %d", len(s), h.Sum(), h.Len())
		}
	}
}

// P1.1: a hash that New did not make is one of no text yet, and can be written to.
func TestNotMadeByNew(t *testing.T) {
	var value Hash
	for _, h := range []*Hash{{}, new(Hash), &value} {
		if written(h.Sum()) != emptySum || h.Len() != 0 {
			t.Fatalf("not made by New: %x, Len %d", h.Sum(), h.Len())
		}
		h.Write("ab")
		h.Write("c" + text(150))
		if h.Sum() != Sum("abc"+text(150)) || h.Len() != 153 {
			t.Errorf("written to: %x, Len %d", h.Sum(), h.Len())
		}
	}
}

// P1.1: hashes know nothing of one another, also one that is a copy of the other.
func TestHashesApart(t *testing.T) {
	a, b := New(), New()
	for range 50 {
		a.Write("left")
		b.Write("and right")
	}
	c := *a
	c.Write(text(100))
	if a.Sum() != Sum(strings.Repeat("left", 50)) || a.Len() != 200 {
		t.Errorf("the first: %x, Len %d", a.Sum(), a.Len())
	}
	if b.Sum() != Sum(strings.Repeat("and right", 50)) || b.Len() != 450 {
		t.Errorf("the second: %x, Len %d", b.Sum(), b.Len())
	}
	if c.Sum() != Sum(strings.Repeat("left", 50)+text(100)) || c.Len() != 300 {
		t.Errorf("the copy: %x, Len %d", c.Sum(), c.Len())
	}
}

// P1.2: a text cut into two, at every place, and into three, at places about the blocks' ends.
func TestCuts(t *testing.T) {
	all := text(200)
	want := sha1.Sum([]byte(all))
	near := []int{0, 1, 55, 56, 63, 64, 65, 119, 120, 127, 128, 129, 192, 199, 200}
	for first := range len(all) + 1 {
		for _, second := range append(near, first) {
			if second < first {
				continue
			}
			h := New()
			h.Write(all[:first])
			h.Write(all[first:second])
			h.Write(all[second:])
			if h.Sum() != want || h.Len() != len(all) {
				t.Errorf("cut at %d and %d: %x, Len %d", first, second, h.Sum(), h.Len())
			}
		}
	}
}

// P1.2: a text cut into pieces of one size, with pieces of nothing between.
func TestPieces(t *testing.T) {
	all := text(1000)
	want := sha1.Sum([]byte(all))
	for size := 1; size <= 260; size++ {
		h := New()
		for at := 0; at < len(all); at += size {
			h.Write(all[at:min(at+size, len(all))])
			h.Write("")
		}
		if h.Sum() != want || h.Len() != len(all) {
			t.Errorf("pieces of %d: %x, Len %d", size, h.Sum(), h.Len())
		}
	}
}
