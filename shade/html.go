package shade

import (
	"strings"

	"wharf/glyph"
)

const newLine = "\n"

// entity is a mark, and the text for which it stands.
type entity struct{ mark, text string }

var entities = [...]entity{
	{"&amp;", "&"},
	{"&lt;", "<"},
	{"&gt;", ">"},
	{"&quot;", `"`},
	{"&nbsp;", " "},
}

// ToHtml answers s with marks, as many of its signs, from the front on, as come to at most most bytes (P16.4).
func ToHtml(s string, most int) string {
	var out strings.Builder
	for at, r := range s {
		piece := marked(s[at:], r)
		if out.Len()+len(piece) > most {
			break
		}
		out.WriteString(piece)
	}
	return out.String()
}

// marked answers how the sign r, with whose bytes s begins, is written: "" if they are no sign's, where a range
// answers one nevertheless.
func marked(s string, r rune) string {
	switch r {
	case '&':
		return "&amp;"
	case '<':
		return "&lt;"
	case '>':
		return "&gt;"
	case '"':
		return "&quot;"
	case '\n':
		return "<BR>"
	}
	_, n, _ := glyph.First(s)
	return s[:n]
}

// FromHtml answers s without marks (P16.5). All that is none is copied by its bytes: those of no sign stay, too.
func FromHtml(s string) string {
	var out strings.Builder
	// Behind the last > no < is looked at: a text of many of them would be gone through anew from each one.
	last := strings.LastIndexByte(s, '>')
	done := 0
	for at, r := range s {
		if at < done {
			continue
		}
		n, text := 0, ""
		switch {
		case r == '<' && at < last:
			n, text = element(s[at:])
		case r == '&':
			n, text = entityOf(s[at:])
		}
		if n > 0 {
			out.WriteString(s[done:at])
			out.WriteString(text)
			done = at + n
		}
	}
	out.WriteString(s[done:])
	return out.String()
}

// element answers how many bytes the element has with which s begins, and to what it comes; 0, if it has no end.
func element(s string) (int, string) {
	n := strings.IndexByte(s, '>') + 1
	switch glyph.Fold(s[:n]) {
	case "<br>", "<br/>":
		return n, newLine
	}
	return n, ""
}

// entityOf answers how many bytes the entity has with which s begins, and to what it comes; 0, if it is none.
func entityOf(s string) (int, string) {
	for _, e := range entities {
		if strings.HasPrefix(s, e.mark) {
			return len(e.mark), e.text
		}
	}
	return 0, ""
}
