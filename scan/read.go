package scan

import (
	"strconv"
	"strings"

	"wharf/api"
	"wharf/glyph"
)

const (
	mostOfName   = 64 // bytes
	mostOfDigits = 7  // of a sign's number

	blanks = " \t\n\r"
)

// beginning is a tag that begins an element, as it is written.
type beginning struct {
	name  string
	attrs []api.Attr // their values are not read yet
	empty bool
}

// readBeginning answers what a tag begins; false, if it has not the form of P6.3.
func readBeginning(t string) (beginning, bool) {
	inner, empty := strings.CutSuffix(t[1:len(t)-1], "/")
	name, rest := inner, ""
	if i := strings.IndexAny(inner, blanks); i >= 0 {
		name, rest = inner[:i], inner[i:]
	}
	if !isFullName(name) {
		return beginning{}, false
	}
	b := beginning{name: name, empty: empty}
	for {
		next := strings.TrimLeft(rest, blanks)
		if next == "" {
			return b, true
		}
		a, behind, ok := cutAttr(next)
		if !ok || len(next) == len(rest) {
			return beginning{}, false
		}
		b.attrs = append(b.attrs, a)
		rest = behind
	}
}

// cutAttr answers the attribute with which s begins, and what stands behind it; false, if it begins with none.
func cutAttr(s string) (api.Attr, string, bool) {
	name, behind, ok := strings.Cut(s, "=")
	if !ok || !isFullName(name) || behind == "" || behind[0] != '\'' && behind[0] != '"' {
		return api.Attr{}, "", false
	}
	value, rest, ok := strings.Cut(behind[1:], behind[:1])
	if !ok || strings.Contains(value, "<") {
		return api.Attr{}, "", false
	}
	return api.Attr{Name: name, Value: value}, rest, true
}

// readEnd answers the name of which a tag is the end; false, if it has not the form of P6.3.
func readEnd(t string) (string, bool) {
	name := strings.TrimRight(t[2:len(t)-1], blanks)
	return name, isFullName(name)
}

// isPrologue tells whether a tag with a question mark may stand ahead of all.
func isPrologue(t string) bool {
	return len(t) >= 4 && strings.HasSuffix(t, "?>")
}

// isFullName tells whether s is a name, or two with a colon between.
func isFullName(s string) bool {
	prefix, local, ok := strings.Cut(s, ":")
	return isName(prefix) && (!ok || isName(local))
}

// isName tells whether s is a name of chapter 5.
func isName(s string) bool {
	if s == "" || len(s) > mostOfName || !mayBegin(s[0]) {
		return false
	}
	for i := range len(s) {
		if !mayBegin(s[i]) && !mayFollow(s[i]) {
			return false
		}
	}
	return true
}

func mayBegin(c byte) bool {
	return 'a' <= c && c <= 'z' || 'A' <= c && c <= 'Z' || c == '_'
}

// mayFollow tells whether c may stand in a name, but not begin it.
func mayFollow(c byte) bool {
	return '0' <= c && c <= '9' || c == '-' || c == '.'
}

// readValues answers the attributes with what their values stand for. The copies of their names let go of the tag.
func readValues(attrs []api.Attr) ([]api.Attr, api.Errno) {
	var out []api.Attr
	for _, a := range attrs {
		value, err := quoted(a.Value)
		if err != api.OK {
			return nil, err
		}
		out = append(out, api.Attr{Name: strings.Clone(a.Name), Value: value})
	}
	return out, api.OK
}

// quoted answers what s stands for, as characters or a value (P6.2).
func quoted(s string) (string, api.Errno) {
	var out strings.Builder
	for {
		front, behind, found := strings.Cut(s, "&")
		out.WriteString(front)
		if !found {
			return out.String(), api.OK
		}
		mark, rest, whole := strings.Cut(behind, ";")
		text, known := meaning(mark)
		switch {
		case whole && known:
			out.WriteString(text)
		case whole && isName(mark):
			return "", api.ErrNever
		default:
			return "", api.ErrXml
		}
		s = rest
	}
}

// meaning answers what an & with this mark and a ; stands for; false, if for nothing.
func meaning(mark string) (string, bool) {
	switch mark {
	case "amp":
		return "&", true
	case "lt":
		return "<", true
	case "gt":
		return ">", true
	case "apos":
		return "'", true
	case "quot":
		return "\"", true
	}
	if digits, ok := strings.CutPrefix(mark, "#x"); ok {
		return sign(digits, 16)
	}
	if digits, ok := strings.CutPrefix(mark, "#"); ok {
		return sign(digits, 10)
	}
	return "", false
}

// sign answers the plain sign with that number; false, if there is none.
func sign(digits string, base int) (string, bool) {
	if len(digits) > mostOfDigits {
		return "", false
	}
	n, bad := strconv.ParseUint(digits, base, 32)
	if bad != nil {
		return "", false
	}
	text, err := glyph.Put(int(n))
	if err != api.OK || glyph.Check(text) != api.OK {
		return "", false
	}
	return text, true
}
