package shade

import (
	"math/rand"
	"strings"
	"unicode/utf8"
)

// showOf goes through the bits in the order in which P16.1 names them.
func showOf(status int) (string, bool) {
	if status < 0 {
		return "", false
	}
	for _, row := range []struct {
		bit  int
		show string
		is   bool
	}{
		{256, "", false}, {2, "dnd", true}, {16, "dnd", true}, {4, "xa", true}, {1, "away", true}, {32, "chat", true},
	} {
		if status/row.bit%2 == 1 {
			return row.show, row.is
		}
	}
	return "", true
}

// written answers how each sign of s is written, by the words of P16.4; of a byte that is none's there is nothing.
func written(s string) []string {
	var out []string
	marks := map[string]string{"&": "&amp;", "<": "&lt;", ">": "&gt;", `"`: "&quot;", "\n": "<BR>"}
	for s != "" {
		n := 1
		for n < 4 && n < len(s) && !utf8.ValidString(s[:n]) {
			n++
		}
		if !utf8.ValidString(s[:n]) {
			s = s[1:]
			continue
		}
		if mark, ok := marks[s[:n]]; ok {
			out = append(out, mark)
		} else {
			out = append(out, s[:n])
		}
		s = s[n:]
	}
	return out
}

// toHtmlOf tries how many signs have room, from all of them on downwards.
func toHtmlOf(s string, most int) string {
	pieces := written(s)
	for n := len(pieces); n > 0; n-- {
		if out := strings.Join(pieces[:n], ""); len(out) <= most {
			return out
		}
	}
	return ""
}

// fromHtmlOf takes what stands at the front of s, by the words of P16.5, until nothing is left.
func fromHtmlOf(s string) string {
	out := ""
	for s != "" {
		n, text := frontOf(s)
		out += text
		s = s[n:]
	}
	return out
}

func frontOf(s string) (int, string) {
	for _, br := range []string{"<BR>", "<BR/>", "<br>"} {
		if len(s) >= len(br) && strings.ToUpper(s[:len(br)]) == strings.ToUpper(br) {
			return len(br), "\n"
		}
	}
	if s[0] == '<' {
		if inner, _, ok := strings.Cut(s[1:], ">"); ok {
			return len(inner) + 2, ""
		}
		return 1, "<"
	}
	for mark, text := range map[string]string{"&amp;": "&", "&lt;": "<", "&gt;": ">", "&quot;": `"`, "&nbsp;": " "} {
		if strings.HasPrefix(s, mark) {
			return len(mark), text
		}
	}
	return 1, s[:1]
}

// tornTexts begin with the bytes of no sign.
func tornTexts() []string {
	return []string{
		"\x80", "\xbf", "\x80a",
		"\xc0\x80", "\xc1\xbf", "\xc0\xbc", "\xe0\x80\x80", "\xe0\x9f\xbf", "\xf0\x80\x80\x80", "\xf0\x8f\xbf\xbf",
		"\xed\xa0\x80", "\xed\xbf\xbf",
		"\xf4\x90\x80\x80", "\xf5\x80\x80\x80", "\xf8\x88\x80\x80\x80", "\xfe", "\xff",
		"\xc3", "\xe2\x82", "\xf0\x9f\x98", "\xc3<", "\xe2\x82&", "\xf0\x9f\x98\n", "\xc3\xc3\xa9",
	}
}

// eachText hands over all texts of at most most of these pieces.
func eachText(pieces []string, most int, look func(string)) {
	var grow func(s string, left int)
	grow = func(s string, left int) {
		look(s)
		if left == 0 {
			return
		}
		for _, p := range pieces {
			grow(s+p, left-1)
		}
	}
	grow("", most)
}

// anyText answers up to most of these pieces, one behind the other.
func anyText(r *rand.Rand, pieces []string, most int) string {
	var out strings.Builder
	for range r.Intn(most + 1) {
		out.WriteString(pieces[r.Intn(len(pieces))])
	}
	return out.String()
}

// bits of what matters in texts of either network.
func bits() []string {
	return []string{
		"<", ">", "&", `"`, "\n", "\r", "\t", "\x00", " ", "/", ";", "a", "B", "r", "\u00e9", "\u20ac", "\ufffd", "\U0001f600",
		"\x80", "\xff", "\xc3", "\xe2\x82", "\xed\xa0\x80",
		"<BR>", "<br>", "<Br/>", "<bR", "</BR>", "<BR />", "<B>", "</a href=\"x\">", "<>", "<!--", "-->",
		"&amp;", "&lt;", "&gt;", "&quot;", "&nbsp;", "&AMP;", "&amp", "&apos;", "&#10;", "amp;", "lt;", "nbsp;",
	}
}
