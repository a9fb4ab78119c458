package tlv

import (
	"strings"

	"wharf/api"
)

// Text answers s behind the number of its bytes, of which the number has width (P11.3).
func Text(s string, width int) (string, api.Errno) {
	size, err := Int(int64(len(s)), width)
	if err != api.OK {
		return "", err
	}
	return size + s, api.OK
}

// First answers the text that s begins with, and what is behind it (P11.3).
func First(s string, width int) (string, string, api.Errno) {
	if !isWidth(width) {
		return "", "", api.ErrArg
	}
	text, rest, ok := cutText(s, width)
	if !ok {
		return "", "", api.ErrTlv
	}
	return strings.Clone(text), strings.Clone(rest), api.OK
}

// cutText is First for a width that may be, but its answers lie in s: one who takes many off one s does not copy what
// is behind each of them.
func cutText(s string, width int) (string, string, bool) {
	if len(s) < width {
		return "", "", false
	}
	size, _ := Num(s[:width])
	rest := s[width:]
	// Held against each other as int64: where an int has 32 bits, a size of 4 bytes may be greater than any of them.
	if size > int64(len(rest)) {
		return "", "", false
	}
	return rest[:size], rest[size:], true
}
