package trie

import (
	"strings"

	"crier/api"
)

const (
	slash     = "/"
	parameter = ':' // what a segment begins with that is a parameter
	rest      = '*' // and one that is the rest
	longest   = 32  // how many bytes a name has at most
)

// Right says whether pattern is one.
func Right(pattern string) bool {
	if !strings.HasPrefix(pattern, slash) {
		return false
	}
	l := segments(pattern)
	names := map[string]struct{}{}
	for i, segment := range l {
		if segment == "" {
			return false
		}
		if literal(segment) {
			continue
		}
		name := segment[1:]
		_, twice := names[name]
		if twice || !isName(name) || segment[0] == rest && i < len(l)-1 {
			return false
		}
		names[name] = struct{}{}
	}
	return true
}

// segments are those of what begins as a pattern does.
func segments(pattern string) []string {
	if pattern == slash {
		return nil
	}
	return strings.Split(pattern[1:], slash)
}

// literal says whether a segment, which is not empty, stands for itself.
func literal(segment string) bool {
	return segment[0] != parameter && segment[0] != rest
}

// isName says whether s may stand behind what a parameter or the rest begins with.
func isName(s string) bool {
	if s == "" || len(s) > longest {
		return false
	}
	for i := range len(s) {
		if !inName(s[i]) {
			return false
		}
	}
	return true
}

// inName says whether b may stand in a name.
func inName(b byte) bool {
	letter := b >= 'A' && b <= 'Z' || b >= 'a' && b <= 'z'
	return letter || b >= '0' && b <= '9' || b == '_'
}

// taken are the parameters and the rest of a pattern, with what they stand for in a path that it fits.
func taken(pattern string, path []string) []api.Field {
	var l []api.Field
	for i, segment := range segments(pattern) {
		switch segment[0] {
		case parameter:
			l = append(l, api.Field{Name: segment[1:], Value: path[i]})
		case rest:
			l = append(l, api.Field{Name: segment[1:], Value: strings.Join(path[i:], slash)})
		}
	}
	return l
}
