package trie

// node is where patterns stand together whose segments so far are of the same kinds, with the same literals, whatever their names.
type node[T any] struct {
	literals    map[string]*node[T]
	param, rest *node[T]
	end         *entry[T] // the pattern that ends here
}

// below is the node to which a pattern's segment leads; nil, if there is none.
func (n *node[T]) below(segment string) *node[T] {
	switch segment[0] {
	case parameter:
		return n.param
	case rest:
		return n.rest
	}
	return n.literals[segment]
}

// grow is the node to which a pattern's segment leads; it is made, if there is none.
func (n *node[T]) grow(segment string) *node[T] {
	if there := n.below(segment); there != nil {
		return there
	}
	grown := &node[T]{}
	switch segment[0] {
	case parameter:
		n.param = grown
	case rest:
		n.rest = grown
	default:
		// no map is made ahead of its first literal: below many nodes there is none
		if n.literals == nil {
			n.literals = map[string]*node[T]{}
		}
		n.literals[segment] = grown
	}
	return grown
}

// place is a node, and how many of a path's segments lead to it.
type place[T any] struct {
	node *node[T]
	read int
}

// further is open and, behind it, the places to which the path's next segment leads from p, the best one last.
func (p place[T]) further(open []place[T], path []string) []place[T] {
	segment := path[p.read]
	if n := p.node.rest; n != nil {
		open = append(open, place[T]{n, len(path)})
	}
	if n := p.node.param; n != nil && segment != "" {
		open = append(open, place[T]{n, p.read + 1})
	}
	if n := p.node.literals[segment]; n != nil {
		open = append(open, place[T]{n, p.read + 1})
	}
	return open
}

// best is what the best pattern below n has that fits path; nil, if none fits.
func (n *node[T]) best(path []string) *entry[T] {
	// the places that are open stand in a list, as a path may have more segments than calls may stand in one another
	open := []place[T]{{n, 0}}
	for len(open) > 0 {
		p := open[len(open)-1]
		open = open[:len(open)-1]
		if p.read < len(path) {
			open = p.further(open, path)
		} else if p.node.end != nil {
			return p.node.end
		}
	}
	return nil
}
