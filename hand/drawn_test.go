package hand_test

import (
	"math/rand"
	"slices"
	"strings"
	"testing"

	"crier/api"
	"crier/hand"
)

// names are those that count, and some that come near.
var names = []string{"Host", "Upgrade", "Connection", "Sec-WebSocket-Key", "Sec-WebSocket-Version", "Sec-WebSocket-Accept", "Origin", "Hosts", "Upgrad", ""}

// anyLetters is s, with letters made great or small at random.
func anyLetters(r *rand.Rand, s string) string {
	out := []byte(s)
	for i := range out {
		if r.Intn(3) == 0 {
			out[i] = strings.ToUpper(string(out[i : i+1]))[0]
		}
	}
	return string(out)
}

// drawnKey is the letters of some text, mostly of 16 bytes, and at times something is wrong with them.
func drawnKey(r *rand.Rand) string {
	const letters = "ABCDEFGHIJKLMNOPQRSTUVWXYZabcdefghijklmnopqrstuvwxyz0123456789+/"
	out := make([]byte, 21)
	for i := range out {
		out[i] = letters[r.Intn(64)]
	}
	key := string(out) + "AQgw"[r.Intn(4):][:1] + "=="
	switch r.Intn(20) {
	case 0:
		return key[:r.Intn(len(key))]
	case 1:
		return key + key[:r.Intn(9)]
	case 2:
		out = []byte(key)
		out[r.Intn(len(out))] = byte(r.Intn(256))
		return string(out)
	}
	return key
}

// drawnList has some parts, mostly one that is alike to word.
func drawnList(r *rand.Rand, word string) string {
	parts := []string{"a", "", "keep-alive", "close", word + "s", word[1:], "x " + word}
	var l []string
	for range r.Intn(4) {
		l = append(l, parts[r.Intn(len(parts))])
	}
	if r.Intn(8) > 0 {
		l = slices.Insert(l, r.Intn(len(l)+1), anyLetters(r, word))
	}
	return strings.Join(l, []string{",", ", ", " ,\t"}[r.Intn(3)])
}

// drawnValue is one for the field of this name.
func drawnValue(r *rand.Rand, name string) string {
	switch name {
	case "Upgrade":
		return drawnList(r, "websocket")
	case "Connection":
		return drawnList(r, "upgrade")
	case "Sec-WebSocket-Key":
		return drawnKey(r)
	case "Sec-WebSocket-Version":
		return []string{"13", "13", "13", "8", "", "13, 8", "013"}[r.Intn(7)]
	}
	return []string{"x", "", "websocket", "13"}[r.Intn(4)]
}

// drawnRequest is one that mostly lacks little of what is asked for.
func drawnRequest(r *rand.Rand) api.Request {
	x := api.Request{Method: "GET", Version: 11, Path: "/x", Query: "y", Body: "z", Close: r.Intn(2) > 0}
	if r.Intn(20) == 0 {
		x.Method = []string{"POST", "get", ""}[r.Intn(3)]
	}
	if r.Intn(20) == 0 {
		x.Version = r.Intn(20)
	}
	for i, name := range names {
		many := 1
		if r.Intn(20) == 0 || i >= 5 {
			many = r.Intn(3)
		}
		for range many {
			x.Fields = append(x.Fields, api.Field{Name: anyLetters(r, name), Value: drawnValue(r, name)})
		}
	}
	r.Shuffle(len(x.Fields), func(i, j int) { x.Fields[i], x.Fields[j] = x.Fields[j], x.Fields[i] })
	return x
}

// P17.1, P17.2, P17.3: drawn requests, held against the plain check; each code comes often enough.
func TestDrawnRequests(t *testing.T) {
	r := rand.New(rand.NewSource(1))
	codes := map[int]int{}
	for range 20000 {
		x := drawnRequest(r)
		answered(t, x)
		_, code := hand.Check(x)
		codes[code]++
	}
	if len(codes) != 3 || codes[101] < 1000 || codes[426] < 1000 || codes[400] < 1000 {
		t.Error(codes)
	}
}

// P17.1: drawn keys, whatever bytes they have.
func TestDrawnKeys(t *testing.T) {
	r := rand.New(rand.NewSource(2))
	for range 3000 {
		key := make([]byte, r.Intn(200))
		r.Read(key)
		if a := hand.Accept(string(key)); a != plainAccept(string(key)) {
			t.Fatalf("Accept(%q): %q", key, a)
		}
	}
}
