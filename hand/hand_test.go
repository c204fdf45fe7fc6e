package hand_test

import (
	"encoding/base64"
	"fmt"
	"math"
	"slices"
	"strconv"
	"strings"
	"testing"

	"crier/api"
	"crier/b64"
	"crier/hand"
)

// The chapter's key, and its accept.
const (
	someKey    = "dGhlIHNhbXBsZSBub25jZQ=="
	someAccept = "s3pPLMBiTxaQ9kYGzzhZRbK+xOo="
)

// fields are those of these names and values by turns.
func fields(l ...string) []api.Field {
	var x []api.Field
	for i := 0; i < len(l); i += 2 {
		x = append(x, api.Field{Name: l[i], Value: l[i+1]})
	}
	return x
}

// rightly is a request that asks rightly, with these fields by turns in the place of its own ones of these names.
func rightly(l ...string) api.Request {
	r := without()
	r.Fields = slices.DeleteFunc(r.Fields, func(f api.Field) bool {
		return slices.ContainsFunc(fields(l...), func(g api.Field) bool { return lower(g.Name) == lower(f.Name) })
	})
	r.Fields = append(r.Fields, fields(l...)...)
	return r
}

// without is a request that asks rightly, less its fields of these names.
func without(names ...string) api.Request {
	l := fields("Host", "x", "Upgrade", "websocket", "Connection", "Upgrade", "Sec-WebSocket-Key", someKey, "Sec-WebSocket-Version", "13")
	l = slices.DeleteFunc(l, func(f api.Field) bool { return slices.Contains(names, f.Name) })
	return api.Request{Method: "GET", Path: "/ws", Version: 11, Fields: l}
}

// alike says whether two replies are the same; a list without elements is as none.
func alike(a, b api.Reply) bool {
	return a.Code == b.Code && a.Body == b.Body && slices.Equal(a.Fields, b.Fields)
}

// same says whether two requests are.
func same(a, b api.Request) bool {
	return a.Method == b.Method && a.Path == b.Path && a.Query == b.Query && a.Version == b.Version &&
		slices.Equal(a.Fields, b.Fields) && a.Body == b.Body && a.Close == b.Close
}

// show is a request or a reply, no more of it than can be read.
func show(x any) string {
	s := fmt.Sprintf("%+v", x)
	return strconv.QuoteToASCII(s[:min(len(s), 500)])
}

// answered says whether Check and Answer of r are as the plain check says, once and once more, and r stays.
func answered(t *testing.T, r api.Request) {
	t.Helper()
	before := r
	before.Fields = slices.Clone(r.Fields)
	accept, code := plainCheck(r)
	x, ok := plainAnswer(r)
	for range 2 {
		if a, c := hand.Check(r); a != accept || c != code {
			t.Errorf("Check(%s): %q, %d, want %q, %d", show(r), a, c, accept, code)
		}
		if y, o := hand.Answer(r); !alike(x, y) || o != ok {
			t.Errorf("Answer(%s): %s, %v, want %s, %v", show(r), show(y), o, show(x), ok)
		}
	}
	if !same(r, before) {
		t.Errorf("%s has become %s", show(before), show(r))
	}
}

// checks says whether a request comes to this code, and to the accept of the chapter's key with 101.
func checks(t *testing.T, r api.Request, code int) {
	t.Helper()
	accept := ""
	if code == 101 {
		accept = someAccept
	}
	if a, c := hand.Check(r); a != accept || c != code {
		t.Errorf("Check(%s): %q, %d, want %q, %d", show(r), a, c, accept, code)
	}
	answered(t, r)
}

// becomes says whether a request becomes a WebSocket, and not with the version 8.
func becomes(t *testing.T, r api.Request) {
	t.Helper()
	checks(t, r, 101)
	checks(t, otherVersion(r, "8"), 426)
}

// refused says whether a request is none that asks rightly, whatever its version.
func refused(t *testing.T, r api.Request) {
	t.Helper()
	checks(t, r, 400)
	for _, version := range []string{"8", "", "113"} {
		checks(t, otherVersion(r, version), 400)
	}
}

// otherVersion is r with this value in its fields of a version.
func otherVersion(r api.Request, version string) api.Request {
	r.Fields = slices.Clone(r.Fields)
	for i, f := range r.Fields {
		if lower(f.Name) == "sec-websocket-version" {
			r.Fields[i].Value = version
		}
	}
	return r
}

// P17.1: the chapter's examples.
func TestExamples(t *testing.T) {
	if a := hand.Accept(someKey); a != someAccept {
		t.Errorf("Accept: %q", a)
	}
	checks(t, rightly(), 101)
	checks(t, rightly("Sec-WebSocket-Version", "8"), 426)
	checks(t, without("Sec-WebSocket-Version"), 400)
	post := rightly()
	post.Method = "POST"
	checks(t, post, 400)
	checks(t, rightly("Sec-WebSocket-Key", someKey, "Sec-WebSocket-Key", someKey), 400)
}

// P17.1: the accept of any key, be it a right one or not, and of none.
func TestAccept(t *testing.T) {
	for key, want := range map[string]string{
		"":                         "Kfh9QIsMVZcl6xEPYxPHzW8SZ8w=",
		"x3JJHMbDL1EzLkh9GBhXDw==": "HSmrc0sMlYUkAGmm5OPpG2HaGWk=",
	} {
		if a := hand.Accept(key); a != want {
			t.Errorf("Accept(%q): %q, want %q", key, a, want)
		}
	}
	keys := []string{
		"", " ", "a", "=", "==", "dGhlIHNhbXBsZSBub25jZQ", someKey + " ", " " + someKey, someKey + "\r\n", someKey + someKey,
		"258EAFA5-E914-47DA-95CA-C5AB0DC85B11", "\x00", "\xff\xfe", "\u00e9", "no key at all", strings.Repeat("\x00", 16), strings.Repeat("a", 1<<20),
	}
	for n := range 300 { // over the ends of the sum's blocks
		keys = append(keys, strings.Repeat("k", n), b64.Encode(strings.Repeat("\x01", n)))
	}
	for b := range 256 {
		keys = append(keys, string([]byte{byte(b)}), someKey[:23]+string([]byte{byte(b)}))
	}
	for _, key := range keys {
		a := hand.Accept(key)
		if a != plainAccept(key) || a != hand.Accept(key) || len(a) != 28 {
			t.Errorf("Accept(%.80q): %q", key, a)
		}
	}
}

// P17.1: whatever a key's 16 bytes are, the accept is its own.
func TestKeys(t *testing.T) {
	for _, text := range []string{strings.Repeat("\x00", 16), strings.Repeat("\xff", 16), "the sample nonce", "\xfb\xff\xbf\xfb\xff\xbf\xfb\xff\xbf\xfb\xff\xbf\xfb\xff\xbf\xfb"} {
		key := base64.StdEncoding.EncodeToString([]byte(text))
		r := rightly("Sec-WebSocket-Key", key)
		if a, code := hand.Check(r); a != plainAccept(key) || a != hand.Accept(key) || code != 101 {
			t.Errorf("Check with %q: %q, %d", key, a, code)
		}
		answered(t, r)
		answered(t, otherVersion(r, "14"))
	}
}

// P17.1: other methods; a method's letters count.
func TestMethods(t *testing.T) {
	for _, method := range []string{"", "get", "Get", "GEt", "GET ", " GET", "GETS", "GE", "POST", "HEAD", "PUT", "OPTIONS", "CONNECT", "GET\x00", "\xff"} {
		r := rightly()
		r.Method = method
		refused(t, r)
	}
}

// P17.1: other versions of HTTP.
func TestVersions(t *testing.T) {
	for _, version := range []int{0, 1, 2, 9, 10, 12, 13, 20, 110, 101, -11, 11 + 1<<32, math.MaxInt, math.MinInt} {
		r := rightly()
		r.Version = version
		refused(t, r)
	}
}

// P17.1: just one field Host, whatever its value.
func TestHosts(t *testing.T) {
	for _, value := range []string{"", "x", "localhost:80", "a, b", "\xff", " "} {
		becomes(t, rightly("Host", value))
		refused(t, rightly("Host", value, "Host", value))
		refused(t, rightly("Host", value, "hOST", "y"))
		refused(t, rightly("HOST", value, "Host", "y", "host", "z"))
	}
	refused(t, without("Host"))
	refused(t, rightly("Host", "x", "host", ""))
	for _, name := range []string{"Hos", "Hosts", "Host ", " Host", "", "X-Host", "H\u00f6st", "HO3T", "(ost"} {
		r := without("Host")
		r.Fields = append(r.Fields, api.Field{Name: name, Value: "x"})
		refused(t, r)
		r.Fields = append(r.Fields, api.Field{Name: "Host", Value: "x"}) // it is no second one
		becomes(t, r)
	}
}

// lists tells of a field that has parts: what is one that is alike to word, and what is none.
func lists(t *testing.T, name, word string) {
	t.Helper()
	great, other := strings.ToUpper(word), "x"+word
	for _, value := range []string{
		word, great, strings.ToUpper(word[:1]) + word[1:], word[:3] + great[3:], " " + word, word + "\t", "\t " + word + " \t",
		word + ",", "," + word, ",,, ," + word + ", ,", word + "," + word, "a, " + word, word + " ,a", "a,b\t,\t" + great + ", c, d", "a b," + word, "keep-alive, " + great, "\xff," + word,
	} {
		becomes(t, rightly(name, value))
		for _, beside := range []string{"", ",", "a", other, "a, b", word, great} { // in several fields
			becomes(t, rightly(name, value, name, beside))
			becomes(t, rightly(name, beside, name, value))
			becomes(t, rightly(lower(name), beside, strings.ToUpper(name), value, name, beside))
		}
	}
	for _, value := range []string{
		"", " ", ",", other, word + "s", word[1:], word[:len(word)-1], word + " " + word, word + ";q=1", word + "/13", word + "\r\n", "\x0b" + word,
		word[:3] + "," + word[3:], word[:3] + " " + word[3:], "\"" + word + "\"", word + "\x00", "\u00a0" + word, word + ".", "a,b,c",
	} {
		refused(t, rightly(name, value))
		refused(t, rightly(name, value, name, value))
		refused(t, rightly(name, "a, b", name, value, lower(name), other))
	}
	refused(t, rightly(name, word[:3], name, word[3:])) // fields are not joined
	refused(t, without(name))
	refused(t, rightly(name, "a", name+"s", word)) // another name
	refused(t, rightly(name, "a", "X-"+name, word))
	refused(t, rightly(name, "a", word, name))
	refused(t, rightly(name, "a", "", word))
	// one byte of the word that is another, 32 beside what it should be, too
	for i := range len(word) {
		for b := range 256 {
			part := []byte(word)
			part[i] = byte(b)
			checkPart(t, name, word, string(part))
		}
	}
}

// checkPart says whether a part stands for word just if it is the same in small letters.
func checkPart(t *testing.T, name, word, part string) {
	t.Helper()
	if lower(part) == word {
		becomes(t, rightly(name, "a, "+part+", b"))
	} else {
		refused(t, rightly(name, "a, "+part+", b"))
	}
}

// P17.1: a part of a field Upgrade that is alike to websocket.
func TestUpgrades(t *testing.T) { lists(t, "Upgrade", "websocket") }

// P17.1: a part of a field Connection that is alike to upgrade.
func TestConnections(t *testing.T) { lists(t, "Connection", "upgrade") }

// P17.1: neither list stands in for the other.
func TestOtherList(t *testing.T) {
	refused(t, rightly("Upgrade", "upgrade", "Connection", "websocket"))
	refused(t, rightly("Upgrade", "upgrade"))
	refused(t, rightly("Connection", "websocket"))
	becomes(t, rightly("Upgrade", "upgrade, websocket", "Connection", "websocket, upgrade"))
	becomes(t, rightly("Connection", "close, upgrade")) // what else is asked for turns nothing
}

// P17.1: just one key.
func TestOneKey(t *testing.T) {
	refused(t, without("Sec-WebSocket-Key"))
	other := b64.Encode("another 16 bytes")
	for _, second := range []string{someKey, other, "", "a", " "} {
		refused(t, rightly("Sec-WebSocket-Key", someKey, "Sec-WebSocket-Key", second))
		refused(t, rightly("Sec-WebSocket-Key", second, "Sec-WebSocket-Key", someKey))
		refused(t, rightly("sec-websocket-key", someKey, "SEC-WEBSOCKET-KEY", second))
		refused(t, rightly("Sec-WebSocket-Key", second, "Sec-WebSocket-Key", someKey, "Sec-WebSocket-Key", someKey))
	}
	for _, name := range []string{"Sec-WebSocket-Keys", "Sec-WebSocket-Ke", "WebSocket-Key", "Sec_WebSocket_Key", "Sec-WebSocket-Key ", "Sec-WebSocket-Key1", "Sec-WebSocket-Accept", ""} {
		r := without("Sec-WebSocket-Key")
		r.Fields = append(r.Fields, api.Field{Name: name, Value: someKey})
		refused(t, r)
		becomes(t, rightly(name, other)) // it is no second one
	}
}

// P17.1: a key that is the letters of a text of another length.
func TestKeyLengths(t *testing.T) {
	for n := range 100 {
		key := base64.StdEncoding.EncodeToString([]byte(strings.Repeat("\x5a", n)))
		r := rightly("Sec-WebSocket-Key", key)
		if n != 16 {
			refused(t, r)
			continue
		}
		if a, code := hand.Check(r); a != plainAccept(key) || code != 101 {
			t.Errorf("%d bytes: %q, %d", n, a, code)
		}
	}
	refused(t, rightly("Sec-WebSocket-Key", strings.Repeat("A", 1<<20)))
	refused(t, rightly("Sec-WebSocket-Key", b64.Encode(strings.Repeat("\x00", 16+1<<16))))
}

// P17.1: a key that is no letters.
func TestNoKeys(t *testing.T) {
	for _, key := range []string{
		"", " ", "=", "==", "====", "the sample nonce", "dGhlIHNhbXBsZSBub25jZQ", "dGhlIHNhbXBsZSBub25jZQ=", "dGhlIHNhbXBsZSBub25jZQ===", "dGhlIHNhbXBsZSBub25jZQ====",
		" " + someKey, someKey + " ", someKey + "\t", someKey + "\n", someKey + "\r\n", "dGhlIHNhbXBs\nZSBub25jZQ==", "dGhlIHNhbXBs\r\n\r\nZSBub25jZQ==", "dGhlIHNhbXBs ZSBub25jZQ==",
		"dGhlIHNhbXBsZSBub25j=ZQ=", "=dGhlIHNhbXBsZSBub25jZQ", "dGhlIHNhbXBsZSBub25jZQ=A", "dGhlIHNh==BsZSBub25jZQ==", someKey + "," + someKey, someKey + ",", "\"" + someKey + "\"",
		"dGhlIHNhbXBsZSBub25jZR==", "dGhlIHNhbXBsZSBub25jZf==", "dGhlIHNhbXBsZSBub25jZY==", // bits behind the end
		"__________________8_-w==", "-GhlIHNhbXBsZSBub25jZQ==", someKey[:23] + "\x00", "\u00e9hlIHNhbXBsZSBub25jZQ==",
	} {
		refused(t, rightly("Sec-WebSocket-Key", key))
	}
}

// P17.1: whatever byte stands wherever in the key.
func TestKeyBytes(t *testing.T) {
	for i := range len(someKey) {
		for b := range 256 {
			key := []byte(someKey)
			key[i] = byte(b)
			answered(t, rightly("Sec-WebSocket-Key", string(key)))
			answered(t, rightly("Sec-WebSocket-Key", string(key), "Sec-WebSocket-Version", "8"))
		}
	}
}

// P17.1: just one version, and what its value is.
func TestSocketVersions(t *testing.T) {
	checks(t, without("Sec-WebSocket-Version"), 400)
	for _, value := range []string{"", "1", "3", "8", "12", "14", "31", "113", "130", "013", "+13", "-13", "13.0", "13 ", " 13", "\t13", "13\r\n", "13,", "13, 13", "13, 8", "8, 13", "0x0d", "thirteen", "\xff", "\u0661\u0663", "\x0013"} {
		checks(t, rightly("Sec-WebSocket-Version", value), 426)
		checks(t, rightly("SEC-websocket-VERSION", value), 426)
		for _, second := range []string{"13", value, ""} {
			checks(t, rightly("Sec-WebSocket-Version", value, "Sec-WebSocket-Version", second), 400)
			checks(t, rightly("Sec-WebSocket-Version", second, "sec-websocket-version", value), 400)
			checks(t, rightly("Sec-WebSocket-Version", "13", "Sec-WebSocket-Version", second, "Sec-WebSocket-Version", value), 400)
		}
	}
	checks(t, rightly("Sec-WebSocket-Version", "13", "Sec-WebSocket-Version", "13"), 400)
	for _, name := range []string{"Sec-WebSocket-Versions", "Sec-WebSocket-Versio", "WebSocket-Version", "Version", "Sec-WebSocket-Version "} {
		r := without("Sec-WebSocket-Version")
		r.Fields = append(r.Fields, api.Field{Name: name, Value: "13"})
		checks(t, r, 400)
		checks(t, rightly(name, "8"), 101) // it is no second one
	}
	both := rightly("Sec-WebSocket-Version", "8") // and something else is wrong, too
	both.Method, both.Version = "PUT", 10
	checks(t, both, 400)
}

// P17.2: each answer, its fields in their order, its body, and whether it becomes a WebSocket.
func TestAnswer(t *testing.T) {
	for _, c := range []struct {
		r    api.Request
		want api.Reply
	}{
		{rightly(), api.Reply{Code: 101, Fields: fields("Upgrade", "websocket", "Connection", "Upgrade", "Sec-WebSocket-Accept", someAccept)}},
		{rightly("Upgrade", "a, WEBSOCKET", "connection", "upGRADE, close"), api.Reply{Code: 101, Fields: fields("Upgrade", "websocket", "Connection", "Upgrade", "Sec-WebSocket-Accept", someAccept)}},
		{rightly("Sec-WebSocket-Version", "8"), api.Reply{Code: 426, Fields: fields("Sec-WebSocket-Version", "13"), Body: "bad version"}},
		{rightly("Sec-WebSocket-Version", ""), api.Reply{Code: 426, Fields: fields("Sec-WebSocket-Version", "13"), Body: "bad version"}},
		{without("Sec-WebSocket-Version"), api.Reply{Code: 400, Body: "bad handshake"}},
		{without("Host"), api.Reply{Code: 400, Body: "bad handshake"}},
		{rightly("Sec-WebSocket-Key", "a", "Sec-WebSocket-Version", "8"), api.Reply{Code: 400, Body: "bad handshake"}},
		{api.Request{}, api.Reply{Code: 400, Body: "bad handshake"}},
	} {
		if x, ok := hand.Answer(c.r); !alike(x, c.want) || ok != (c.want.Code == 101) {
			t.Errorf("Answer(%s): %s, %v, want %s", show(c.r), show(x), ok, show(c.want))
		}
		answered(t, c.r)
	}
}

// R4: what is answered is new memory each time, whoever writes over it.
func TestAnswerIsNew(t *testing.T) {
	for _, r := range []api.Request{rightly(), rightly("Sec-WebSocket-Version", "8"), without("Host")} {
		x, _ := hand.Answer(r)
		_ = append(x.Fields, fields("a", "b", "c", "d")...)
		for i := range x.Fields {
			x.Fields[i] = api.Field{Name: "none"}
		}
		for i := range x.Fields[:cap(x.Fields)] {
			x.Fields[:cap(x.Fields)][i] = api.Field{Name: "none"}
		}
		answered(t, r)
	}
}

// R4: what is handed in stays, its spare room too.
func TestRequestStays(t *testing.T) {
	for _, r := range []api.Request{rightly(), rightly("Sec-WebSocket-Version", "8"), without("Host")} {
		room := append(slices.Clone(r.Fields), fields("spare", "room")...)
		all := slices.Clone(room)
		r.Fields = room[:len(room)-1]
		hand.Check(r)
		x, _ := hand.Answer(r)
		_ = append(x.Fields, fields("a", "b")...)
		if !slices.Equal(room, all) {
			t.Errorf("%q has become %q", all, room)
		}
	}
}

// P17.1: the names of fields, in whatever letters.
func TestNames(t *testing.T) {
	r := without()
	for i, f := range r.Fields {
		for _, name := range []string{strings.ToLower(f.Name), strings.ToUpper(f.Name), strings.ToLower(f.Name[:2]) + strings.ToUpper(f.Name[2:])} {
			other := r
			other.Fields = slices.Clone(r.Fields)
			other.Fields[i].Name = name
			becomes(t, other)
			for j := range other.Fields {
				other.Fields[j].Name = strings.ToUpper(other.Fields[j].Name)
			}
			becomes(t, other)
		}
		for _, name := range []string{f.Name + " ", " " + f.Name, f.Name + ":", f.Name[1:], "X" + f.Name, f.Name + "\x00", ""} {
			other := r
			other.Fields = slices.Clone(r.Fields)
			other.Fields[i].Name = name
			refused(t, other)
		}
	}
}

// P17.3: other fields, the path, the query, the body, and that the peer closes, turn nothing.
func TestRestTurnsNothing(t *testing.T) {
	more := fields("Origin", "http://x", "Sec-WebSocket-Protocol", "chat", "Sec-WebSocket-Extensions", "permessage-deflate", "Content-Length", "5",
		"Transfer-Encoding", "chunked", "Sec-WebSocket-Accept", "x", "Allow", "POST", "", "", "Cookie", "a, websocket", "Origin", "again", "no token at all\r\n", "\x00\xff")
	for _, r := range []api.Request{rightly(), rightly("Sec-WebSocket-Version", "8"), without("Host"), without("Upgrade"), {}} {
		accept, code := hand.Check(r)
		x, ok := hand.Answer(r)
		for i := range 1 << 5 {
			other := r
			other.Fields = slices.Clone(r.Fields)
			if i&1 > 0 {
				other.Path = []string{"", "/", "*", "//%zz", "no path", "\xff"}[i%6]
			}
			if i&2 > 0 {
				other.Query = "upgrade=websocket&\x00"
			}
			if i&4 > 0 {
				other.Body = strings.Repeat("body", i)
			}
			other.Close = i&8 > 0
			if i&16 > 0 {
				other.Fields = append(slices.Clone(more), append(other.Fields, more...)...)
			}
			if a, c := hand.Check(other); a != accept || c != code {
				t.Errorf("Check(%s): %q, %d, want %q, %d", show(other), a, c, accept, code)
			}
			if y, o := hand.Answer(other); !alike(x, y) || ok != o {
				t.Errorf("Answer(%s): %s, %v, want %s, %v", show(other), show(y), o, show(x), ok)
			}
		}
	}
}

// orders are all orders of l.
func orders(l []api.Field) [][]api.Field {
	if len(l) == 0 {
		return [][]api.Field{nil}
	}
	var all [][]api.Field
	for i, f := range l {
		for _, rest := range orders(slices.Delete(slices.Clone(l), i, i+1)) {
			all = append(all, append(rest, f))
		}
	}
	return all
}

// P17.3: nor does the order of fields.
func TestOrders(t *testing.T) {
	for _, l := range []struct {
		r    api.Request
		code int
	}{
		{rightly(), 101},
		{rightly("Upgrade", "a", "Upgrade", "b, websocket"), 101},
		{rightly("Connection", "a", "Connection", "b, upgrade"), 101},
		{rightly("Sec-WebSocket-Version", "8", "Origin", "x"), 426},
		{rightly("Sec-WebSocket-Version", "8", "Sec-WebSocket-Version", "13"), 400},
		{rightly("Host", "x", "Host", "y"), 400},
		{rightly("Sec-WebSocket-Key", someKey, "Sec-WebSocket-Key", "a"), 400},
		{rightly("Connection", "close"), 400},
		{rightly("Sec-WebSocket-Key", "a", "Sec-WebSocket-Version", "8"), 400},
	} {
		for _, other := range orders(l.r.Fields) {
			r := l.r
			r.Fields = other
			checks(t, r, l.code)
		}
	}
}

// P17.1, R1: requests of nothing, and great ones.
func TestEnds(t *testing.T) {
	answered(t, api.Request{})
	answered(t, api.Request{Method: "GET", Version: 11})
	answered(t, api.Request{Method: "GET", Version: 11, Fields: []api.Field{}})
	answered(t, api.Request{Method: "GET", Version: 11, Fields: make([]api.Field, 1000)})
	great := rightly("Connection", strings.Repeat("a,", 1<<18)+"upgrade", "Upgrade", strings.Repeat(",", 1<<18)+"websocket", "Host", strings.Repeat("h", 1<<20))
	for range 1000 {
		great.Fields = append(great.Fields, fields("Upgrade", "b", "Connection", "c", "X", "d")...)
	}
	checks(t, great, 101)
	checks(t, otherVersion(great, strings.Repeat("13", 1<<18)), 426)
}
