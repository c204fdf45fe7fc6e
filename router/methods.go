package router

import (
	"maps"
	"slices"
	"strings"
)

const (
	get  = "GET"
	head = "HEAD"
)

// methods are the routes of one pattern, by their methods.
type methods map[string]Route

// route is that of a method; false, if there is none.
func (m methods) route(method string) (Route, bool) {
	r, ok := m[method]
	if !ok && method == head {
		r, ok = m[get]
	}
	return r, ok
}

// allow are all methods that have a route, rising.
func (m methods) allow() string {
	l := slices.Collect(maps.Keys(m))
	if _, ok := m[get]; ok {
		l = append(l, head) // it may be there of its own: told once all the same
	}
	slices.Sort(l)
	return strings.Join(slices.Compact(l), ", ")
}
