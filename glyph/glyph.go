// Package glyph has the signs of which texts are made, as bytes (UTF-8).
package glyph

import (
	"strings"
	"unicode/utf8"

	"wharf/api"
)

// Signs from lowest to highest of these are halves of pairs in another coding, and stand for nothing alone.
const (
	lowestHalf  = 0xd800
	highestHalf = 0xdfff
)

const blanks = " \t\n\r"

// First answers the sign with whose bytes s begins, and how many bytes these are (P1.2).
func First(s string) (int, int, api.Errno) {
	r, n := utf8.DecodeRuneInString(s)
	if r == utf8.RuneError && n < 2 {
		return 0, 0, api.ErrGlyph
	}
	return int(r), n, api.OK
}

// Put answers the bytes of the sign c (P1.1).
func Put(c int) (string, api.Errno) {
	if !isSign(c) {
		return "", api.ErrGlyph
	}
	return string(rune(c)), api.OK
}

// isSign is asked ahead of a conversion to a rune, which would cut off the high bits of a greater number.
func isSign(c int) bool {
	if lowestHalf <= c && c <= highestHalf {
		return false
	}
	return 0 <= c && c <= api.MaxGlyph
}

// Check tells whether s is made of plain signs alone (P1.3).
func Check(s string) api.Errno {
	_, err := Len(s)
	return err
}

// Len answers of how many signs s is made, all of which must be plain (P1.3).
func Len(s string) (int, api.Errno) {
	n := 0
	for at, r := range s {
		if !isPlain(r) || isTorn(s[at:], r) {
			return 0, api.ErrGlyph
		}
		n++
	}
	return n, api.OK
}

func isPlain(r rune) bool {
	switch r {
	case '\t', '\n', '\r':
		return true
	case 0xfffe, 0xffff:
		return false
	}
	return r >= ' '
}

// isTorn tells whether s, from whose front a range took r, begins with bytes of no sign: the range has the sign
// RuneError for these too, so that the bytes alone tell whether it stands there itself.
func isTorn(s string, r rune) bool {
	return r == utf8.RuneError && !strings.HasPrefix(s, string(utf8.RuneError))
}

// Fold answers s with small letters in place of A to Z (P1.4). It goes by bytes: those of no sign stay as they are.
func Fold(s string) string {
	b := []byte(s)
	for i, c := range b {
		if 'A' <= c && c <= 'Z' {
			b[i] = c - 'A' + 'a'
		}
	}
	return string(b)
}

// Trim answers s without the blanks at its front and its end (P1.4). The copy keeps a long s from living on in it.
func Trim(s string) string {
	return strings.Clone(strings.Trim(s, blanks))
}

// Head answers the longest front of s of at most n bytes that does not end within a sign (P1.4); "", if there is
// none. The copy keeps a long s from living on in it.
func Head(s string, n int) string {
	if n >= len(s) {
		return strings.Clone(s)
	}
	for n > 0 && isInner(s[n]) {
		n--
	}
	return strings.Clone(s[:max(n, 0)])
}

// isInner tells whether b can only be a byte of a sign behind its first one (10xxxxxx).
func isInner(b byte) bool {
	return b&0xc0 == 0x80
}
