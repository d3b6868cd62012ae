// Package hash has SHA-256: see ../../shared/DOC.md and doc/02-hash.md.
package hash

import (
	"sync"

	"cambium/api"
)

const (
	digits    = "0123456789abcdef"
	lastDigit = 'f' // the greatest byte that is a digit
	hexSize   = 64  // digits of a hash
)

// digitValues has by each digit its value and one more: what has 0 there is no digit.
var (
	digitsOnce  sync.Once
	digitValues [lastDigit + 1]byte
)

// Sum is a text's hash.
func Sum(s string) [32]byte {
	whole := len(s) - len(s)%pieceSize
	now := through(firstState, s[:whole])
	return through(now, s[whole:]+padding(len(s))).bytes()
}

// Hex writes a hash as digits.
func Hex(h [32]byte) string {
	s := make([]byte, 0, hexSize)
	for _, b := range h {
		s = append(s, digits[b>>4], digits[b&15])
	}
	return string(s)
}

// Parse reads a hash that is written as digits.
func Parse(s string) ([32]byte, api.Errno) {
	if len(s) != hexSize {
		return [32]byte{}, api.ErrForm
	}
	var h [32]byte
	for i := range h {
		high, highOK := valueOf(s[2*i])
		low, lowOK := valueOf(s[2*i+1])
		if !highOK || !lowOK {
			return [32]byte{}, api.ErrForm
		}
		h[i] = high<<4 | low
	}
	return h, api.OK
}

// DigitValue is the value of a digit; false, if c is none.
func DigitValue(c byte) (byte, bool) {
	digitsOnce.Do(makeDigitValues)
	if c > lastDigit || digitValues[c] == 0 {
		return 0, false
	}
	return digitValues[c] - 1, true
}

func makeDigitValues() {
	for c := range digitValues {
		if value, ok := valueOf(byte(c)); ok {
			digitValues[c] = value + 1
		}
	}
}

// valueOf is what DigitValue tells, of nothing but c: so Parse leans on nothing that was made before.
func valueOf(c byte) (byte, bool) {
	switch {
	case c >= '0' && c <= '9':
		return c - '0', true
	case c >= 'a' && c <= lastDigit:
		return c - 'a' + 10, true
	}
	return 0, false
}
