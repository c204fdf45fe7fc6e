package chain

import (
	"slices"
	"strings"

	"crier/api"
	"crier/field"
)

// unknown is told of a request that does not say who asks.
const unknown = "-"

// apart is h with lists of its own: whatever it does to its request's, or to its reply's later on, is not seen outside.
func apart(h Handler) Handler {
	return func(r api.Request) api.Reply {
		r.Fields = slices.Clone(r.Fields)
		x := h(r)
		x.Fields = slices.Clone(x.Fields)
		return x
	}
}

// around is a right step around the next one.
func around(s Step, next Handler) Handler {
	switch s.Kind {
	case SNeed:
		return need(s.Name, s.Value, next)
	case SLimit:
		return limit(s.N, next)
	case STake:
		return take(s.Value, next)
	case SWho:
		return who(s.Name, s.Value, next)
	}
	return add(api.Field{Name: s.Name, Value: s.Value}, next)
}

// add puts f behind the fields of next's replies.
func add(f api.Field, next Handler) Handler {
	return func(r api.Request) api.Reply {
		return with(next(r), f)
	}
}

// who puts behind the fields of next's replies one more, with what the request's field of the name asked says.
func who(asked, name string, next Handler) Handler {
	return func(r api.Request) api.Reply {
		value, many := field.Get(r.Fields, asked)
		if many == 0 {
			value = unknown
		}
		return with(next(r), api.Field{Name: name, Value: value})
	}
}

// with is x with f behind its fields, which are no other's (see apart).
func with(x api.Reply, f api.Field) api.Reply {
	x.Fields = append(x.Fields, f)
	return x
}

// need has only requests come to next that have a field of this name, with this value, if it is not empty.
func need(name, value string, next Handler) Handler {
	return func(r api.Request) api.Reply {
		got, many := field.Get(r.Fields, name)
		if many == 0 || value != "" && got != value {
			return refused(403, "forbidden")
		}
		return next(r)
	}
}

// limit has only requests come to next whose body has at most n bytes.
func limit(n int, next Handler) Handler {
	return func(r api.Request) api.Reply {
		if len(r.Body) > n {
			return refused(413, "too long")
		}
		return next(r)
	}
}

// take has only requests come to next whose path begins with prefix, and takes that from them.
func take(prefix string, next Handler) Handler {
	return func(r api.Request) api.Reply {
		left, ok := strings.CutPrefix(r.Path, prefix)
		if left == "" {
			left = slash
		}
		if !ok || !strings.HasPrefix(left, slash) {
			return refused(404, "not found")
		}
		r.Path = left
		return next(r)
	}
}

// refused is the reply of a step beyond which a request does not come.
func refused(code int, body string) api.Reply {
	return api.Reply{Code: code, Body: body}
}
