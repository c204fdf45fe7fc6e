package hand_test

import (
	"crypto/sha1"
	"encoding/base64"
	"strings"

	"crier/api"
)

// plainAccept is the accept of a key, by Go's own library.
func plainAccept(key string) string {
	sum := sha1.Sum([]byte(key + "258EAFA5-E914-47DA-95CA-C5AB0DC85B11"))
	return base64.StdEncoding.EncodeToString(sum[:])
}

// lower is s with small letters for great ones, of A to Z alone.
func lower(s string) string {
	out := []byte(s)
	for i, b := range out {
		if 'A' <= b && b <= 'Z' {
			out[i] = b + 32
		}
	}
	return string(out)
}

// plainCheck reads the chapter's words one by one: what is wrong is counted, and the version apart from it.
func plainCheck(r api.Request) (string, int) {
	values := map[string][]string{}
	parts := map[string]map[string]int{}
	for _, f := range r.Fields {
		name := lower(f.Name)
		values[name] = append(values[name], f.Value)
		if parts[name] == nil {
			parts[name] = map[string]int{}
		}
		for _, part := range strings.Split(f.Value, ",") {
			parts[name][lower(strings.Trim(part, "\t "))]++
		}
	}
	wrong := 0
	for _, right := range []bool{
		r.Method == "GET",
		r.Version == 11,
		len(values["host"]) == 1,
		parts["upgrade"]["websocket"] > 0,
		parts["connection"]["upgrade"] > 0,
		len(values["sec-websocket-key"]) == 1 && plainKey(values["sec-websocket-key"][0]),
		len(values["sec-websocket-version"]) == 1,
	} {
		if !right {
			wrong++
		}
	}
	switch {
	case wrong > 0:
		return "", 400
	case values["sec-websocket-version"][0] != "13":
		return "", 426
	}
	return plainAccept(values["sec-websocket-key"][0]), 101
}

// plainKey says whether key is the letters of a text of 16 bytes: 22 letters, the last of which has four noughts, and two fillers.
func plainKey(key string) bool {
	return len(key) == 24 && key[22:] == "==" && strings.IndexByte("AQgw", key[21]) >= 0 && onlyLetters(key[:21])
}

// onlyLetters says whether each byte of s is one of the 64 letters.
func onlyLetters(s string) bool {
	for i := range len(s) {
		b := s[i]
		if !('A' <= b && b <= 'Z' || 'a' <= b && b <= 'z' || '0' <= b && b <= '9' || b == '+' || b == '/') {
			return false
		}
	}
	return true
}

// plainAnswer is what is answered, of the plain check.
func plainAnswer(r api.Request) (api.Reply, bool) {
	switch accept, code := plainCheck(r); code {
	case 101:
		return api.Reply{Code: 101, Fields: fields("Upgrade", "websocket", "Connection", "Upgrade", "Sec-WebSocket-Accept", accept)}, true
	case 426:
		return api.Reply{Code: 426, Fields: fields("Sec-WebSocket-Version", "13"), Body: "bad version"}, false
	default:
		return api.Reply{Code: 400, Body: "bad handshake"}, false
	}
}
