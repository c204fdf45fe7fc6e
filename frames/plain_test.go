package frames_test

import (
	"slices"

	"crier/frames"
)

// The events of which nothing more is said.
var (
	ended  = frames.Event{Kind: frames.End}
	failed = frames.Event{Kind: frames.Fail}
)

// piece is the event of these data.
func piece(s string) frames.Event { return frames.Event{Kind: frames.Piece, Text: s} }

// begun is the event of a head with this Fin, Op and Len.
func begun(fin bool, op, size int) frames.Event {
	return frames.Event{Kind: frames.Begin, Fin: fin, Op: op, Len: size}
}

// cutter cuts numbers off the beginning of a text, from the highest bit on.
type cutter struct {
	s     string
	bit   int
	short bool
}

// next is the number in so many bits.
func (c *cutter) next(bits int) uint64 {
	if c.short = c.short || c.bit+bits > 8*len(c.s); c.short {
		return 0
	}
	var number uint64
	for range bits {
		number = number*2 + uint64(c.s[c.bit/8]>>(7-c.bit%8)&1)
		c.bit++
	}
	return number
}

// plainHead is a head, read plainly.
type plainHead struct {
	fin, masked bool
	rsv, op     int
	form, size  uint64
	key         [4]byte
	bytes       int
}

// readPlain is the head with which s begins; false, if it is not whole.
func readPlain(s string) (plainHead, bool) {
	c := &cutter{s: s}
	h := plainHead{fin: c.next(1) == 1, rsv: int(c.next(3)), op: int(c.next(4)), masked: c.next(1) == 1, form: c.next(7)}
	h.size = h.form
	switch h.form {
	case 126:
		h.size = c.next(16)
	case 127:
		h.size = c.next(64)
	}
	if h.masked {
		for i := range h.key {
			h.key[i] = byte(c.next(8))
		}
	}
	h.bytes = c.bit / 8
	return h, !c.short
}

// mayNot says whether h may not be, where frames should be masked, or should not.
func (h plainHead) mayNot(masked bool) bool {
	least := uint64(127)
	if h.size < 126 {
		least = h.size
	} else if h.size < 65536 {
		least = 126
	}
	wrong := []bool{
		h.rsv > 0, !slices.Contains([]int{0, 1, 2, 8, 9, 10}, h.op), h.masked != masked,
		h.op > 7 && h.size > 125, h.op > 7 && !h.fin, h.form != least, h.size>>63 > 0,
	}
	return slices.Contains(wrong, true)
}

// item is what a byte of a stream brings: an event; one of data has one byte.
type item struct {
	e  frames.Event
	at int // how many bytes of the stream must be there
}

// plainItems are what the bytes of s bring, one behind the other.
func plainItems(masked bool, s string) []item {
	var l []item
	for at := 0; ; {
		h, whole := readPlain(s[at:])
		if !whole {
			return l
		}
		at += h.bytes
		if h.mayNot(masked) {
			return append(l, item{failed, at})
		}
		l = append(l, item{begun(h.fin, h.op, int(h.size)), at})
		for i := uint64(0); i < h.size; i++ {
			if at == len(s) {
				return l
			}
			l = append(l, item{piece(string([]byte{s[at] ^ h.key[i%4]})), at + 1})
			at++
		}
		l = append(l, item{ended, at})
	}
}

// plain is what a reader should tell of a stream.
type plain struct {
	items []item // what all of it brings
	told  int    // how many of them were told
	fed   int    // how many bytes of it were fed
}

// there says whether an item is there that was not told.
func (p *plain) there() bool {
	return p.told < len(p.items) && p.items[p.told].at <= p.fed
}

// next is the event that Next should tell.
func (p *plain) next() (frames.Event, bool) {
	if !p.there() {
		return frames.Event{}, false
	}
	e := p.items[p.told].e
	p.told++
	text := []byte(e.Text)
	for ; e.Kind == frames.Piece && p.there() && p.items[p.told].e.Kind == frames.Piece; p.told++ {
		text = append(text, p.items[p.told].e.Text...)
	}
	e.Text = string(text)
	return e, true
}

// last is the item that was told last; of none it is as if a frame had ended ahead of the stream.
func (p *plain) last() item {
	if p.told == 0 {
		return item{e: ended}
	}
	return p.items[p.told-1]
}

// bad is what Bad should say.
func (p *plain) bad() bool { return p.last().e.Kind == frames.Fail }

// idle is what Idle should say.
func (p *plain) idle() bool { return p.last().e.Kind == frames.End && p.last().at == p.fed }
