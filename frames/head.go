package frames

import (
	"math"

	"crier/api"
	"crier/frame"
)

const (
	mostHead    = 14  // bytes, of a head of whatever form
	mostControl = 125 // bytes, of a control frame's data
)

// right says whether h may be, be it masked or not.
func right(h frame.Head) bool {
	if h.Rsv != 0 || !h.Least || h.Len > math.MaxInt64 {
		return false
	}
	switch h.Op {
	case api.OpMore, api.OpText, api.OpBinary:
		return true
	case api.OpClose, api.OpPing, api.OpPong:
		return h.Fin && h.Len <= mostControl
	}
	return false
}
