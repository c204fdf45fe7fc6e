package router

import (
	"strings"

	"crier/api"
	"crier/field"
	"crier/trie"
)

// The kinds of routes.
const (
	RFixed   = 1
	REcho    = 2
	RParams  = 3
	RUpgrade = 4
)

// Route is a method, a pattern, and what it comes to.
type Route struct {
	Method, Pattern string
	Kind            int
	Text            string
}

// Right says whether r may be one of a router.
func Right(r Route) bool {
	return field.Token(r.Method) && trie.Right(r.Pattern) && suits(r)
}

// suits says whether r's kind is one, and its text and its method are such as may be of that.
func suits(r Route) bool {
	switch r.Kind {
	case RFixed:
		return len(r.Text) <= api.MaxBody
	case REcho, RParams:
		return r.Text == ""
	case RUpgrade:
		return r.Text == "" && r.Method == get
	}
	return false
}

// answer is what a right route answers a request of this body, whose path has these parameters.
func answer(r Route, body string, params []api.Field) api.Reply {
	switch r.Kind {
	case REcho:
		return api.Reply{Code: 200, Body: body}
	case RParams:
		return api.Reply{Code: 200, Body: lines(params)}
	case RUpgrade:
		return api.Reply{Code: 101}
	}
	return api.Reply{Code: 200, Body: r.Text}
}

// lines are parameters, a line each.
func lines(params []api.Field) string {
	var out strings.Builder
	for _, p := range params {
		out.WriteString(p.Name + "=" + p.Value + "\n")
	}
	return out.String()
}
