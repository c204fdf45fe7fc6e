package reply

import (
	"strconv"
	"strings"

	"crier/api"
	"crier/field"
	"crier/line"
)

// mostDigits are as many as may tell how long a body is.
const mostDigits = 6

// Read is the reply with which s begins, its head alone or all, whether it closes, and how many bytes it has.
func Read(s string, head bool) (r api.Reply, close bool, n int, e api.Errno) {
	text, rest, ended := strings.Cut(s, headEnd)
	if !ended {
		return api.Reply{}, false, 0, unended(s)
	}
	code, fields, isHead := headOf(text)
	size, isSize := sizeOf(code, fields)
	close, isClose := closes(code, fields)
	if !isHead || !isSize || !isClose {
		return api.Reply{}, false, 0, api.ErrForm
	}
	if head {
		size = 0
	}
	if len(rest) < size {
		return api.Reply{}, false, 0, api.ErrShort
	}
	r = api.Reply{Code: code, Fields: others(code, fields), Body: rest[:size]}
	return r, close, len(text) + len(headEnd) + size, api.OK
}

// unended is what is wrong of bytes in which no head ends.
func unended(s string) api.Errno {
	if len(s) < api.MaxText {
		return api.ErrShort
	}
	return api.ErrForm
}

// headOf are the code and all fields of a head without its end; false, if a line of it may not be.
func headOf(text string) (code int, fields []api.Field, ok bool) {
	first, rest, more := strings.Cut(text, lineEnd)
	code, _, ok = line.Status(first)
	for ok && more {
		var next string
		next, rest, more = strings.Cut(rest, lineEnd)
		var f api.Field
		f, ok = field.Parse(next)
		fields = append(fields, f)
	}
	if !ok {
		return 0, nil, false
	}
	return code, fields, true
}

// sizeOf is how long the body of a reply with this head is; false, if the fields may not tell it so.
func sizeOf(code int, fields []api.Field) (int, bool) {
	_, encodings := field.Get(fields, encoding)
	digits, lengths := field.Get(fields, length)
	if encodings > 0 {
		return 0, false
	}
	if bare(code) {
		return 0, lengths == 0
	}
	if lengths != 1 || digits == "" || len(digits) > mostDigits || strings.Trim(digits, "0123456789") != "" {
		return 0, false
	}
	size, _ := strconv.Atoi(digits) // of so few digits it tells a number always
	return size, true
}

// closes says whether the connection ends behind a reply with this head; false, if the fields may not tell it so.
func closes(code int, fields []api.Field) (end, ok bool) {
	value, many := field.Get(fields, connection)
	if many == 0 || code == switching { // ahead of other bytes a Connection is a field like any other
		return false, true
	}
	if many > 1 || value != closing {
		return false, false
	}
	return true, true
}

// others are those of the fields that a reply of this code may have.
func others(code int, fields []api.Field) []api.Field {
	var l []api.Field
	for _, f := range fields {
		if !isOwn(f.Name, code) {
			l = append(l, f)
		}
	}
	return l
}
