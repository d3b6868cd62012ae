// Package pack has numbers and texts as bytes, and a check sum: see ../../shared/DOC.md and doc/01-pack.md.
package pack

import "cambium/api"

const (
	maxWidth    = 8         // bytes of a number, at most
	lengthWidth = 2         // bytes of the number that tells a text's length
	maxText     = 1<<16 - 1 // bytes of a text, as many as that number can tell
)

// Number makes a number's bytes.
func Number(n uint64, width int) (string, api.Errno) {
	// Go shifts a number by all its bits to 0: so nothing is too great for the greatest width.
	if !rightWidth(width) || n>>(8*width) != 0 {
		return "", api.ErrRange
	}
	b := make([]byte, width)
	for i := range b {
		b[i] = byte(n >> (8 * (width - 1 - i)))
	}
	return string(b), api.OK
}

// TakeNumber takes a number from the beginning of bytes, and tells what is behind it.
func TakeNumber(s string, width int) (uint64, string, api.Errno) {
	if !rightWidth(width) {
		return 0, "", api.ErrRange
	}
	if len(s) < width {
		return 0, "", api.ErrMore
	}
	var n uint64
	for i := range width {
		n = n<<8 | uint64(s[i])
	}
	return n, s[width:], api.OK
}

// Text makes a text's bytes.
func Text(t string) (string, api.Errno) {
	if len(t) > maxText {
		return "", api.ErrLong
	}
	length, why := Number(uint64(len(t)), lengthWidth)
	if why != api.OK {
		return "", why
	}
	return length + t, api.OK
}

// TakeText takes a text from the beginning of bytes, and tells what is behind it.
func TakeText(s string) (string, string, api.Errno) {
	n, rest, why := TakeNumber(s, lengthWidth)
	if why != api.OK {
		return "", "", why
	}
	if uint64(len(rest)) < n {
		return "", "", api.ErrMore
	}
	return rest[:n], rest[n:], api.OK
}

func rightWidth(width int) bool {
	return width >= 1 && width <= maxWidth
}
