package scan

import (
	"maps"
	"regexp"
	"strconv"
	"strings"
	"unicode/utf8"

	"wharf/api"
)

// The words of P6.2 and P6.3, as patterns.
const (
	nameWords = `[a-zA-Z_][a-zA-Z0-9_.-]{0,63}`
	fullWords = nameWords + `(?::` + nameWords + `)?`
	attrWords = `[ \t\r\n]+(` + fullWords + `)=('[^'<]*'|"[^"<]*")`
)

var (
	tagForm    = regexp.MustCompile(`\A<(?:[^'">]|'[^']*'|"[^"]*")*?>`)
	nameForm   = regexp.MustCompile(`\A` + nameWords + `\z`)
	attrForm   = regexp.MustCompile(attrWords)
	endForm    = regexp.MustCompile(`\A</(` + fullWords + `)[ \t\r\n]*>\z`)
	beginForm  = regexp.MustCompile(`\A<(` + fullWords + `)((?:` + attrWords + `)*)[ \t\r\n]*(/?)>\z`)
	quotedForm = regexp.MustCompile(`&([^;]*;?)`)
	decForm    = regexp.MustCompile(`\A#([0-9]{1,7});\z`)
	hexForm    = regexp.MustCompile(`\A#x([0-9a-fA-F]{1,7});\z`)
)

// node is an element that is open, with all that is declared where it is.
type node struct {
	elem   api.Elem
	name   string
	spaces map[string]string
}

// model reads a whole stream at once, by the words of P6.1 to P6.5.
type model struct {
	events []api.Event
	open   []*node
	size   int
	over   bool
}

func modelOf(text string) *model {
	m := &model{}
	for first := true; text != "" && !m.over; first = false {
		token := tokenOf(text)
		if token == "" {
			if len(text) > 16384 {
				m.wrong(api.ErrBig)
			}
			break
		}
		text = text[len(token):]
		if err := m.take(token, first); err != api.OK {
			m.wrong(err)
		}
	}
	return m
}

// tokenOf answers the first token of text that is whole; "", if none is.
func tokenOf(text string) string {
	if text[0] == '<' {
		return tagForm.FindString(text)
	}
	return text[:max(0, strings.IndexByte(text, '<'))]
}

func (m *model) tell(kind int, e api.Elem) {
	m.events = append(m.events, api.Event{Kind: kind, Elem: e})
	m.over = m.over || kind == api.EvClose
}

func (m *model) wrong(err api.Errno) {
	m.events = append(m.events, api.Event{Kind: api.EvWrong, Err: err})
	m.over = true
}

func (m *model) take(token string, first bool) api.Errno {
	if len(m.open) >= 2 {
		m.size += len(token)
	} else {
		m.size = len(token)
	}
	if len(token) > 16384 || m.size > 16384 {
		return api.ErrBig
	}
	if !isPlainText(token) {
		return api.ErrLetters
	}
	if token[0] != '<' {
		return m.characters(token)
	}
	if strings.HasPrefix(token, "<?") {
		if first && token != "<?>" && strings.HasSuffix(token, "?>") {
			return api.OK
		}
		return api.ErrNever
	}
	if strings.HasPrefix(token, "<!") {
		return api.ErrNever
	}
	if end := endForm.FindStringSubmatch(token); end != nil {
		return m.end(end[1])
	}
	if begin := beginForm.FindStringSubmatch(token); begin != nil {
		return m.begin(begin[1], begin[2], begin[len(begin)-1] == "/")
	}
	return api.ErrXml
}

func isPlainText(s string) bool {
	for i, r := range s {
		if _, n := utf8.DecodeRuneInString(s[i:]); r == utf8.RuneError && n == 1 || !isPlain(int64(r)) {
			return false
		}
	}
	return true
}

func isPlain(n int64) bool {
	return n == 9 || n == 0xa || n == 0xd || n >= 0x20 && n < 0xd800 || n > 0xdfff && n < 0xfffe || n > 0xffff && n <= 0x10ffff
}

func (m *model) characters(token string) api.Errno {
	if len(m.open) < 2 {
		if strings.Trim(token, " \t\n\r") != "" {
			return api.ErrXml
		}
		return api.OK
	}
	text, err := modelQuoted(token)
	m.open[len(m.open)-1].elem.Text += text
	return err
}

func modelQuoted(s string) (string, api.Errno) {
	err := api.OK
	out := quotedForm.ReplaceAllStringFunc(s, func(mark string) string {
		text, e := modelMeaning(mark[1:])
		if err == api.OK {
			err = e
		}
		return text
	})
	if err != api.OK {
		return "", err
	}
	return out, api.OK
}

func modelMeaning(mark string) (string, api.Errno) {
	if text, ok := map[string]string{"amp;": "&", "lt;": "<", "gt;": ">", "apos;": "'", "quot;": "\""}[mark]; ok {
		return text, api.OK
	}
	n := int64(0)
	if m := decForm.FindStringSubmatch(mark); m != nil {
		n, _ = strconv.ParseInt(m[1], 10, 64)
	}
	if m := hexForm.FindStringSubmatch(mark); m != nil {
		n, _ = strconv.ParseInt(m[1], 16, 64)
	}
	if isPlain(n) {
		return string(rune(n)), api.OK
	}
	if name, ok := strings.CutSuffix(mark, ";"); ok && nameForm.MatchString(name) {
		return "", api.ErrNever
	}
	return "", api.ErrXml
}

func (m *model) end(name string) api.Errno {
	if len(m.open) == 0 || m.open[len(m.open)-1].name != name {
		return api.ErrXml
	}
	m.shut()
	return api.OK
}

func (m *model) shut() {
	last := m.open[len(m.open)-1]
	m.open = m.open[:len(m.open)-1]
	switch len(m.open) {
	case 0:
		m.tell(api.EvClose, api.Elem{})
	case 1:
		m.tell(api.EvStanza, last.elem)
	default:
		in := m.open[len(m.open)-1]
		in.elem.Kids = append(in.elem.Kids, last.elem)
	}
}

func (m *model) begin(name, words string, empty bool) api.Errno {
	attrs := attrForm.FindAllStringSubmatch(words, -1)
	n, err := m.node(name, attrs)
	if err != api.OK {
		return err
	}
	if len(m.open) == 0 {
		if empty {
			return api.ErrXml
		}
		m.tell(api.EvOpen, n.elem)
	}
	if len(m.open) == 17 {
		return api.ErrBig
	}
	m.open = append(m.open, n)
	if empty {
		m.shut()
	}
	return api.OK
}

// node goes through P6.3 question by question; an attribute is its words, its name, its value within its marks.
func (m *model) node(name string, attrs [][]string) (*node, api.Errno) {
	n := &node{name: name, spaces: map[string]string{}}
	if len(m.open) > 0 {
		n.spaces = maps.Clone(m.open[len(m.open)-1].spaces)
	}
	seen, others := map[string]bool{}, 0
	for _, a := range attrs {
		if seen[a[1]] {
			return nil, api.ErrXml
		}
		seen[a[1]] = true
		if a[1] != "xmlns" && !strings.HasPrefix(a[1], "xmlns:") {
			others++
		}
	}
	if others > 16 {
		return nil, api.ErrBig
	}
	for _, a := range attrs {
		value, err := modelQuoted(a[2][1 : len(a[2])-1])
		if err != api.OK {
			return nil, err
		}
		a[2] = value
	}
	return n, n.fill(attrs)
}

func (n *node) fill(attrs [][]string) api.Errno {
	for _, a := range attrs {
		if a[1] != "xmlns" && !strings.HasPrefix(a[1], "xmlns:") {
			continue
		}
		if a[2] == "" || len(a[2]) > 256 || a[1] == "xmlns:xml" || a[1] == "xmlns:xmlns" {
			return api.ErrXml
		}
		n.spaces[strings.TrimPrefix(strings.TrimPrefix(a[1], "xmlns"), ":")] = a[2]
	}
	colon := strings.Index(n.name, ":")
	n.elem.Name = n.name[colon+1:]
	n.elem.Space = n.spaces[n.name[:max(0, colon)]]
	if n.elem.Space == "" {
		return api.ErrXml
	}
	for _, a := range attrs {
		prefix, _, has := strings.Cut(a[1], ":")
		switch {
		case a[1] == "xmlns" || prefix == "xmlns" && has:
		case !has || a[1] == "xml:lang":
			n.elem.Attrs = append(n.elem.Attrs, api.Attr{Name: a[1], Value: a[2]})
		case prefix != "xml" && n.spaces[prefix] == "":
			return api.ErrXml
		}
	}
	return api.OK
}
