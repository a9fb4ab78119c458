package escape

import (
	"strings"
	"testing"

	"wharf/api"
)

// laid has the ten escapes as P2.1 lists them, with the bytes for which they stand.
var laid = map[string]byte{
	`\20`: ' ', `\22`: '"', `\26`: '&', `\27`: '\'', `\2f`: '/', `\3a`: ':', `\3c`: '<', `\3e`: '>', `\40`: '@', `\5c`: '\\',
}

// barredOf has the bytes that P2.2 and P2.4 list.
const barredOf = ` "&'/:<>@`

func textOf(bytes ...byte) string {
	return string(bytes)
}

func begins(s string) bool {
	for e := range laid {
		if strings.HasPrefix(s, e) {
			return true
		}
	}
	return false
}

// escapeOf says P2.2 by its words, byte for byte.
func escapeOf(s string) (string, api.Errno) {
	if s == "" || strings.HasPrefix(s, " ") || strings.HasSuffix(s, " ") {
		return "", api.ErrEscape
	}
	out := ""
	for i := range len(s) {
		piece := s[i : i+1]
		if strings.Contains(barredOf, piece) || begins(s[i:]) {
			for e, c := range laid {
				if c == s[i] {
					piece = e
				}
			}
		}
		out += piece
	}
	return out, api.OK
}

// unescapeOf says P2.3 by its words: the blanks at the ends are kept away, all else is put in place from the front on.
func unescapeOf(s string) string {
	front, end := "", ""
	if strings.HasPrefix(s, `\20`) {
		front, s = `\20`, s[3:]
	}
	if strings.HasSuffix(s, `\20`) {
		end, s = `\20`, s[:len(s)-3]
	}
	out := ""
	for s != "" {
		if begins(s) {
			out += textOf(laid[s[:3]])
			s = s[3:]
		} else {
			out += s[:1]
			s = s[1:]
		}
	}
	return front + out + end
}

func isOf(s string) bool {
	return s != "" && !strings.ContainsAny(s, barredOf) && !strings.HasPrefix(s, `\20`) && !strings.HasSuffix(s, `\20`)
}

// eachText calls look with all texts of at most n of these pieces.
func eachText(pieces []string, n int, look func(s string)) {
	var grow func(s string, left int)
	grow = func(s string, left int) {
		look(s)
		if left == 0 {
			return
		}
		for _, p := range pieces {
			grow(s+p, left-1)
		}
	}
	grow("", n)
}

// P2.1, P2.2, P2.3: of all two bytes behind a backslash, just the ten listed ones make an escape, small letters alone.
func TestEveryTwoBytesBehindABackslash(t *testing.T) {
	for a := range 256 {
		for b := range 256 {
			s := textOf('\\', byte(a), byte(b))
			around := "x" + s + "y"
			want := around
			if c, ok := laid[s]; ok {
				want = "x" + textOf(c) + "y"
			}
			if got := Unescape(around); got != want {
				t.Fatalf("Unescape(%q): %q, not %q", around, got, want)
			}
			wantEscaped, _ := escapeOf(around)
			if got, err := Escape(around); got != wantEscaped || err != api.OK {
				t.Fatalf("Escape(%q): %q, %d, not %q", around, got, err, wantEscaped)
			}
			if got, want := Is(around), isOf(around); got != want {
				t.Fatalf("Is(%q): %t", around, got)
			}
		}
	}
}

// P2.1: what lacks a digit, or has a great letter, is no escape.
func TestWhatIsNoEscape(t *testing.T) {
	for _, s := range []string{`\`, `\2`, `\5`, `\\`, `\2F`, `\3A`, `\3C`, `\3E`, `\5C`, `\21`, `\23`, `\5b`, `\5d`, `\00`, `\ 20`, `\2 0`, `20`, `\x20`, `/20`, `\g0`, `\0g`, "\\2\xc3"} {
		for _, around := range []string{"x" + s + "y", "x" + s} {
			if got := Unescape(around); got != around {
				t.Errorf("Unescape(%q): %q", around, got)
			}
		}
		if strings.ContainsAny(s, barredOf) {
			continue
		}
		if got, err := Escape("x" + s); got != "x"+s || err != api.OK {
			t.Errorf("Escape(%q): %q, %d", "x"+s, got, err)
		}
	}
}

// P2.2: of every byte, alone, in front, within and behind.
func TestEscapeOfEveryByte(t *testing.T) {
	for a := range 256 {
		b := textOf(byte(a))
		piece := b
		for e, c := range laid {
			if c == byte(a) && c != '\\' {
				piece = e
			}
		}
		for s, want := range map[string]string{b: piece, b + "x": piece + "x", "x" + b + "y": "x" + piece + "y", "x" + b: "x" + piece, "x" + b + b + "y": "x" + piece + piece + "y"} {
			wantErr := api.OK
			if strings.HasPrefix(s, " ") || strings.HasSuffix(s, " ") {
				want, wantErr = "", api.ErrEscape
			}
			if got, err := Escape(s); got != want || err != wantErr {
				t.Errorf("Escape(%q): %q, %d, not %q, %d", s, got, err, want, wantErr)
			}
		}
	}
}

// P2.2: what is empty, or has a blank at an end, is refused; other white space is not.
func TestEscapeRefusesBlanksAtTheEnds(t *testing.T) {
	for _, s := range []string{"", " ", "  ", " a", "a ", " a ", " @", "@ ", " \\20", "\\20 "} {
		if got, err := Escape(s); got != "" || err != api.ErrEscape {
			t.Errorf("Escape(%q): %q, %d", s, got, err)
		}
	}
	for _, s := range []string{"\t", "\n", "\ta\r", "\u00a0a\u2003", "\x00", "\xff", "\xc3", "a\x80"} {
		if got, err := Escape(s); got != s || err != api.OK {
			t.Errorf("Escape(%q): %q, %d", s, got, err)
		}
	}
}

// P2.2: a backslash is escaped where it begins an escape, and nowhere else.
func TestEscapeOfBackslashes(t *testing.T) {
	for s, want := range map[string]string{
		`a\b`: `a\b`, `\`: `\`, `\\`: `\\`, `\20`: `\5c20`, `\20a`: `\5c20a`, `a\20`: `a\5c20`, `\5c`: `\5c5c`, `\\5c`: `\\5c5c`,
		`\5c\5c`: `\5c5c\5c5c`, `\5c20`: `\5c5c20`, `\5C`: `\5C`, `c:\5commas`: `c\3a\5c5commas`, `\ 20x`: `\\2020x`, `\2@`: `\2\40`,
		`a\2`: `a\2`, `\@`: `\\40`,
	} {
		if got, err := Escape(s); got != want || err != api.OK {
			t.Errorf("Escape(%q): %q, %d, not %q", s, got, err, want)
		}
	}
}

// P2.3: each escape gives its byte, wherever it stands; those of blanks stay at the ends, and only there.
func TestUnescapeAtEveryPlace(t *testing.T) {
	for e, c := range laid {
		b := textOf(c)
		edge := b
		if c == ' ' {
			edge = e
		}
		for s, want := range map[string]string{e: edge, e + "x": edge + "x", "x" + e: "x" + edge, "x" + e + "y": "x" + b + "y", e + e + e: edge + b + edge, "x" + e + e: "x" + b + edge} {
			if got := Unescape(s); got != want {
				t.Errorf("Unescape(%q): %q, not %q", s, got, want)
			}
		}
	}
}

// P2.3: what an escape stood for makes no new one, and blanks come up only within.
func TestUnescapeGoesFromTheFrontOnce(t *testing.T) {
	for s, want := range map[string]string{
		"": "", "a": "a", ` a `: ` a `, `\20`: `\20`, `\20\20`: `\20\20`, `\20\20\20`: `\20 \20`, `\20a\20b\20`: `\20a b\20`,
		`\5c20`: `\20`, `\5c20a`: `\20a`, `a\5c20`: `a\20`, `\5c5c20`: `\5c20`, `\5c\5c`: `\\`, `\5c\20`: `\\20`, `\\20a`: `\ a`, `\\20`: `\\20`,
		`\20\5c20\20`: `\20\20\20`, `x\2f\5cy`: `x/\y`, `\5cc`: `\c`, "\xff\\40\x80": "\xff@\x80", `20a`: `20a`, ` \20 `: `   `,
	} {
		if got := Unescape(s); got != want {
			t.Errorf("Unescape(%q): %q, not %q", s, got, want)
		}
	}
}

// P2.4: of every byte, wherever it stands.
func TestIsOfEveryByte(t *testing.T) {
	for a := range 256 {
		b := textOf(byte(a))
		want := !strings.Contains(barredOf, b)
		for _, s := range []string{b, b + "x", "x" + b, "x" + b + "y"} {
			if got := Is(s); got != want {
				t.Errorf("Is(%q): %t", s, got)
			}
		}
	}
}

// P2.4: nothing is none; an escape of a blank may stand within alone; others, and backslashes, anywhere.
func TestIsAtTheEnds(t *testing.T) {
	for s, want := range map[string]bool{
		"": false, "a": true, `\20`: false, `\20a`: false, `a\20`: false, `a\20b`: true, `\20\20`: false, `\5c20`: true, `a\5c20`: true,
		`\40`: true, `\5c`: true, `\`: true, `\2`: true, `20`: true, `\\20`: false, `\\20a`: true, `a@b`: false, "a b": false, "\t": true, "\xff": true, "\x00": true,
	} {
		if got := Is(s); got != want {
			t.Errorf("Is(%q): %t", s, got)
		}
	}
}

// P2.2, P2.3, P2.4, P2.5: all short texts of what matters here go as the words say, come back, and stay apart.
func TestAllShortTexts(t *testing.T) {
	from := map[string]string{}
	eachText([]string{`\`, "2", "0", "5", "c", "C", " ", "@"}, 6, func(s string) {
		want, wantErr := escapeOf(s)
		got, err := Escape(s)
		if got != want || err != wantErr {
			t.Fatalf("Escape(%q): %q, %d, not %q, %d", s, got, err, want, wantErr)
		}
		if got, want := Unescape(s), unescapeOf(s); got != want {
			t.Fatalf("Unescape(%q): %q, not %q", s, got, want)
		}
		if got, want := Is(s), isOf(s); got != want {
			t.Fatalf("Is(%q): %t", s, got)
		}
		if err != api.OK {
			return
		}
		if !Is(got) || Unescape(got) != s {
			t.Fatalf("%q was escaped as %q, which is one: %t, and comes back as %q", s, got, Is(got), Unescape(got))
		}
		if other, ok := from[got]; ok {
			t.Fatalf("%q and %q have the same: %q", other, s, got)
		}
		from[got] = s
	})
}

// P2.5: so do texts of whole escapes, and what was escaped before.
func TestTextsOfEscapes(t *testing.T) {
	pieces := []string{`\20`, `\5c`, `\2f`, `\`, " ", "/", "20", "5c", "x"}
	eachText(pieces, 5, func(s string) {
		if got, want := Unescape(s), unescapeOf(s); got != want {
			t.Fatalf("Unescape(%q): %q, not %q", s, got, want)
		}
		once, err := Escape(s)
		if err != api.OK {
			return
		}
		twice, err := Escape(once)
		if err != api.OK || !Is(once) || !Is(twice) || Unescape(once) != s || Unescape(twice) != once {
			t.Fatalf("%q, then %q, then %q", s, once, twice)
		}
	})
}

// P2.5, and Rule 1: long texts too.
func TestLongTexts(t *testing.T) {
	for _, s := range []string{"a" + strings.Repeat(" ", 70000) + "b", strings.Repeat(`\20`, 70000), strings.Repeat(`\`, 70000), strings.Repeat("@", 70000), strings.Repeat("\u20ac", 70000)} {
		got, err := Escape(s)
		if err != api.OK || !Is(got) || Unescape(got) != s {
			t.Errorf("a text of %d bytes that begins with %q does not come back: %d", len(s), s[:3], err)
		}
	}
}

// P2.6: a text with none of the bytes, and no escape, stays; any other one of those that may be escaped does not.
func TestAsFewAsCanBe(t *testing.T) {
	for _, s := range []string{"a", "romeo", "d!Art", `back\slash`, `\2`, `\5C`, "\u00e9\u20ac\U0001f600", "a\tb", "!#$%()*+,-.;=?[]^_`{|}~", "20", "5c"} {
		if got, err := Escape(s); got != s || err != api.OK {
			t.Errorf("Escape(%q): %q, %d", s, got, err)
		}
	}
	eachText([]string{`\`, "2", "0", "c", "5", ":", "x"}, 5, func(s string) {
		got, err := Escape(s)
		if err != api.OK {
			return
		}
		stays := !strings.ContainsAny(s, barredOf)
		for e := range laid {
			stays = stays && !strings.Contains(s, e)
		}
		if (got == s) != stays {
			t.Fatalf("Escape(%q): %q", s, got)
		}
	})
}

// The chapter's examples.
func TestExamples(t *testing.T) {
	if s, err := Escape("d'Art@x"); s != `d\27Art\40x` || err != api.OK {
		t.Errorf("Escape(d'Art@x): %q, %d", s, err)
	}
	if s, err := Escape(`a\5cb`); s != `a\5c5cb` || err != api.OK {
		t.Errorf(`Escape(a\5cb): %q, %d`, s, err)
	}
	if s := Unescape(`\20a`); s != `\20a` {
		t.Errorf(`Unescape(\20a): %q`, s)
	}
}
