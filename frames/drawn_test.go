package frames_test

import (
	"math/rand"
	"slices"
	"strings"
	"testing"

	"crier/api"
	"crier/frame"
	"crier/frames"
)

// drawnText has bytes of any kind, not more than may be.
func drawnText(r *rand.Rand, most int) string {
	out := make([]byte, r.Intn(most+1))
	r.Read(out)
	return string(out)
}

// drawnFrame is a frame that may be.
func drawnFrame(r *rand.Rand, masked bool, most int) api.Frame {
	f := api.Frame{Fin: r.Intn(2) > 0, Masked: masked}
	f.Op = []int{api.OpMore, api.OpText, api.OpBinary, api.OpClose, api.OpPing, api.OpPong}[r.Intn(6)]
	if f.Op >= api.OpClose {
		f.Fin, most = true, min(most, 125)
	}
	if masked && r.Intn(4) > 0 {
		r.Read(f.Key[:])
	}
	f.Data = drawnText(r, most)
	return f
}

// bytesOf are the bytes of a frame that may be.
func bytesOf(f api.Frame) string {
	s, e := frame.Bytes(f)
	if e != api.OK {
		panic("a frame that has no bytes")
	}
	return s
}

// P16.3: frames that may be, as bytes, are told as they are, however these are cut.
func TestDrawnFrames(t *testing.T) {
	r := rand.New(rand.NewSource(1))
	for i := range 3000 {
		var s strings.Builder
		var want []frames.Event
		for range 1 + r.Intn(6) {
			f := drawnFrame(r, i%2 > 0, []int{3, 10, 200}[r.Intn(3)])
			s.WriteString(bytesOf(f))
			want = append(want, ofFrame(f)...)
		}
		for _, pieces := range [][]string{{s.String()}, byByte(s.String()), cut(r, s.String())} {
			if l := ofCuts(i%2 > 0, pieces...); !slices.Equal(l, want) {
				t.Fatalf("%s in %d pieces: %s, want %s", brief(s.String()), len(pieces), show(l...), show(want...))
			}
		}
	}
}

// P16.3: frames whose number has two or eight bytes, in few pieces and in many.
func TestGreatFrames(t *testing.T) {
	r := rand.New(rand.NewSource(2))
	for _, n := range []int{126, 127, 255, 256, 4096, 65535, 65536, 65537, 200000} {
		for _, masked := range []bool{false, true} {
			f := drawnFrame(r, masked, 0)
			f.Op, f.Fin, f.Data = api.OpBinary, n%2 > 0, some(n)
			ping := drawnFrame(r, masked, 100)
			s, want := bytesOf(f)+bytesOf(ping), append(ofFrame(f), ofFrame(ping)...)
			for _, pieces := range [][]string{{s}, {s[:1], s[1:]}, {s[:9], s[9:100], s[100:]}, {s[:len(s)-1], s[len(s)-1:]}, cut(r, s)} {
				if l := ofCuts(masked, pieces...); !slices.Equal(l, want) {
					t.Errorf("%d bytes in %d pieces: %s, want %s", n, len(pieces), show(l...), show(want...))
				}
			}
		}
	}
}

// P16.3: a stream cut in two and in three at all places.
func TestCuts(t *testing.T) {
	for _, masked := range []bool{false, true} {
		var s strings.Builder
		r := rand.New(rand.NewSource(3))
		for _, n := range []int{3, 0, 126, 1} {
			f := drawnFrame(r, masked, 0)
			f.Op, f.Data = api.OpText, some(n)
			s.WriteString(bytesOf(f))
		}
		all := s.String() + "\x09\x00" + noughts + "behind"
		want := ofCuts(masked, all)
		if len(want) != 3+2+3+3+1 {
			t.Fatalf("%s", show(want...))
		}
		for i := range len(all) + 1 {
			for j := i; j <= len(all); j++ {
				if l := ofCuts(masked, all[:i], all[i:j], all[j:]); !slices.Equal(l, want) {
					t.Fatalf("cut at %d, %d: %s, want %s", i, j, show(l...), show(want...))
				}
			}
		}
		beside(t, masked, byByte(all)...)
	}
}

// drawnStream are the bytes of frames, most of which may be.
func drawnStream(r *rand.Rand, masked bool) string {
	var s strings.Builder
	for range r.Intn(6) {
		f := []byte(bytesOf(drawnFrame(r, masked != (r.Intn(20) == 0), 150)))
		if r.Intn(5) == 0 { // another first or second byte
			f[r.Intn(2)] ^= 1 << r.Intn(8)
		}
		s.Write(f)
	}
	return s.String() + drawnText(r, 5)
}

// P16.1 to P16.3: streams that are drawn, with frames that may not be, against the plain reading.
func TestDrawnStreams(t *testing.T) {
	r := rand.New(rand.NewSource(4))
	fails := 0
	for i := range 4000 {
		s := drawnStream(r, i%2 > 0)
		beside(t, i%2 > 0, s)
		beside(t, i%2 > 0, byByte(s)...)
		beside(t, i%2 > 0, cut(r, s)...)
		if l := ofCuts(i%2 > 0, s); len(l) > 0 && l[len(l)-1] == failed {
			fails++
		}
	}
	if fails < 1000 || fails > 3500 {
		t.Errorf("%d failed", fails)
	}
}

// P16.1 to P16.3: Feed, Next and walks as they are drawn, not all asked for between, against the plain reading.
func TestDrawnCalls(t *testing.T) {
	d := rand.New(rand.NewSource(5))
	for i := range 4000 {
		s := drawnStream(d, i%2 > 0)
		p, r := &plain{items: plainItems(i%2 > 0, s)}, frames.New(i%2 > 0)
		for calls := 0; calls < 60 && !t.Failed(); calls++ {
			var got, want []frames.Event
			switch n := 1 + d.Intn(5); d.Intn(4) {
			case 0, 1:
				n = min(d.Intn(30), len(s)-p.fed)
				r.Feed(s[p.fed : p.fed+n])
				p.fed += n
			case 2:
				got, want = taken(r.All(), n), p.some(n)
			case 3:
				if e, ok := r.Next(); ok {
					got = append(got, e)
				}
				want = p.some(1)
			}
			if !slices.Equal(got, want) {
				t.Errorf("%s, %d were fed: %s, want %s", brief(s), p.fed, show(got...), show(want...))
			}
			stands(t, r, p.bad(), p.idle())
		}
	}
}

// some are up to n events that should be told.
func (p *plain) some(n int) []frames.Event {
	var l []frames.Event
	for range n {
		if e, ok := p.next(); ok {
			l = append(l, e)
		}
	}
	return l
}

// P16.1, P16.3: many frames and bytes that wait are told as fast as few; what was told of them stays as it is.
func TestMany(t *testing.T) {
	const many = 200000
	r := frames.New(false)
	for range many {
		r.Feed("\x81")
		r.Feed("\x01")
		r.Feed("a")
	}
	var l []frames.Event
	for e := range r.All() {
		l = append(l, e)
		r.Feed("\xff")
	}
	want := slices.Repeat([]frames.Event{begun(true, 1, 1), piece("a"), ended}, many)
	if want = append(want, failed); !slices.Equal(l, want) {
		t.Errorf("%s, want %s", show(l...), show(want...))
	}
}
