package frame

// What the second byte of a head says, less its flag, of a number that stands behind it; below these it is the number.
const (
	inTwo   = 126
	inEight = 127
)

// least is the form that says a number in the fewest bytes.
func least(number uint64) byte {
	switch {
	case number < inTwo:
		return byte(number)
	case number < 1<<16:
		return inTwo
	}
	return inEight
}

// width is how many bytes a form has behind the second one of the head.
func width(form byte) int {
	switch form {
	case inTwo:
		return 2
	case inEight:
		return 8
	}
	return 0
}

// number is what a form says, where s stands behind the second byte of the head.
func number(form byte, s string) uint64 {
	if form < inTwo {
		return uint64(form)
	}
	sum := uint64(0)
	for i := range width(form) {
		sum = sum<<8 | uint64(s[i])
	}
	return sum
}

// putNumber fills out with the lowest bytes of a number, the highest of these first.
func putNumber(out []byte, number uint64) {
	for i := range out {
		out[len(out)-1-i] = byte(number >> (8 * i))
	}
}
