package request

import (
	"strings"

	"crier/api"
	"crier/field"
	"crier/line"
)

// The names of the fields that are looked at.
const (
	host       = "Host"
	encoding   = "Transfer-Encoding"
	length     = "Content-Length"
	connection = "Connection"
)

// head is what the head of a request says.
type head struct {
	request  api.Request // its body aside
	inChunks bool
	size     int // of a body that is none in chunks
}

// headOf is the head whose text this is, up to its last line's CR LF; 400, 413 or 431, if it may not be, else 0.
func headOf(text string) (head, int) {
	lines := strings.Split(text, "\r\n")
	if len(lines)-1 > api.MaxFields {
		return head{}, 431
	}
	r, ok := requestOf(lines[0], lines[1:])
	if !ok || !hostsMayBe(r) || !encodingMayBe(r) || !lengthsMayBe(r.Fields) {
		return head{}, 400
	}
	_, encodings := field.Get(r.Fields, encoding)
	digits, _ := field.Get(r.Fields, length)
	n := count(digits)
	if n > api.MaxBody {
		return head{}, 413
	}
	return head{request: r, inChunks: encodings > 0, size: n}, 0
}

// requestOf is the request, without its body, of these lines; false, if one of them may not be.
func requestOf(first string, others []string) (api.Request, bool) {
	method, target, version, isLine := line.Parse(first)
	path, query, isOrigin := line.Target(target)
	if !isLine || !isOrigin {
		return api.Request{}, false
	}
	r := api.Request{Method: method, Path: path, Query: query, Version: version}
	for _, s := range others {
		f, ok := field.Parse(s)
		if !ok {
			return api.Request{}, false
		}
		r.Fields = append(r.Fields, f)
	}
	r.Close = closes(r)
	return r, true
}

// closes says whether the connection is to end behind r.
func closes(r api.Request) bool {
	for _, f := range r.Fields {
		if field.Alike(f.Name, connection) && field.Has(f.Value, "close") {
			return true
		}
	}
	return r.Version == 10
}

// hostsMayBe says whether r has as many fields Host as its version asks for.
func hostsMayBe(r api.Request) bool {
	_, many := field.Get(r.Fields, host)
	return r.Version != 11 || many == 1
}

// encodingMayBe says whether r has no Transfer-Encoding, or one that may be.
func encodingMayBe(r api.Request) bool {
	value, many := field.Get(r.Fields, encoding)
	_, lengths := field.Get(r.Fields, length)
	return many == 0 || many == 1 && lengths == 0 && r.Version != 10 && field.Alike(value, "chunked")
}

// lengthsMayBe says whether all that l says of the body's length is one and the same number.
func lengthsMayBe(l []api.Field) bool {
	value, many := field.Get(l, length)
	for _, f := range l {
		if field.Alike(f.Name, length) && f.Value != value {
			return false
		}
	}
	return many == 0 || value != "" && strings.Trim(value, "0123456789") == ""
}

// count is the number that digits tell; no more than one above the longest body, however many they are.
func count(digits string) int {
	n := 0
	for i := range len(digits) {
		n = min(n*10+int(digits[i]-'0'), api.MaxBody+1)
	}
	return n
}
