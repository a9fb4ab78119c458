package shade

import (
	"math"
	"math/rand"
	"strings"
	"testing"
	"unicode/utf8"
	"unsafe"
)

const plenty = 1 << 20 // of bytes: there is room for all

func lookAtToHtml(t *testing.T, s string, most int) {
	t.Helper()
	if got, want := ToHtml(s, most), toHtmlOf(s, most); got != want {
		t.Fatalf("ToHtml(%q, %d): %q, not %q", s, most, got, want)
	}
}

func lookAtFromHtml(t *testing.T, s string) {
	t.Helper()
	if got, want := FromHtml(s), fromHtmlOf(s); got != want {
		t.Fatalf("FromHtml(%q): %q, not %q", s, got, want)
	}
}

// P16.4: the marks, and what is none.
func TestToHtml(t *testing.T) {
	for s, want := range map[string]string{
		"": "", "abc": "abc", "a<b": "a&lt;b", "<": "&lt;", ">": "&gt;", "&": "&amp;", `"`: "&quot;", "\n": "<BR>",
		"'": "'", "\r": "\r", "\r\n": "\r<BR>", "\t ": "\t ", "\x00\x01\x7f": "\x00\x01\x7f", "  ": "  ",
		"&amp;": "&amp;amp;", "<BR>": "&lt;BR&gt;", "<br/>": "&lt;br/&gt;", "&nbsp;": "&amp;nbsp;", "\n\n": "<BR><BR>",
		"\u00e9\u20ac\U0001f600": "\u00e9\u20ac\U0001f600", "\u00a0": "\u00a0", "\ufffd": "\ufffd", "\ufffe\uffff": "\ufffe\uffff",
		"\u2028\u0085": "\u2028\u0085", "\u226e\uff1c": "\u226e\uff1c",
		"\xff": "", "a\xffb": "ab", "\xffa": "a", "a\xff": "a", "\xc3<": "&lt;", "\xe2\x82\n": "<BR>", "\xed\xa0\x80": "", "\xc0\xbc": "",
		"\x80\x80a\xf5": "a", "\ufffd\xff\ufffd": "\ufffd\ufffd",
	} {
		if got := ToHtml(s, plenty); got != want {
			t.Errorf("ToHtml(%q): %q, not %q", s, got, want)
		}
	}
}

// P16.4: no sign is torn, nor what it is written as; behind one for which there is no room nothing comes.
func TestToHtmlRoom(t *testing.T) {
	for _, c := range []struct {
		s    string
		most int
		want string
	}{
		{"ab<", 5, "ab"}, {"ab<", 6, "ab&lt;"}, {"ab<", 2, "ab"}, {"ab<", 1, "a"}, {"ab<", 0, ""}, {"ab<", -1, ""},
		{"ab<c", 5, "ab"}, {"ab<c", 6, "ab&lt;"}, {"ab<c", 7, "ab&lt;c"}, {"<a", 3, ""}, {"<a", 1, ""}, {"\na", 3, ""}, {"\na", 4, "<BR>"},
		{"&a", 4, ""}, {"&a", 5, "&amp;"}, {`"a`, 5, ""}, {`"a`, 6, "&quot;"}, {">a", 3, ""}, {">a", 4, "&gt;"},
		{"a\u00e9b", 2, "a"}, {"a\u00e9b", 3, "a\u00e9"}, {"\u20aca", 2, ""}, {"\u20aca", 3, "\u20ac"}, {"\U0001f600a", 3, ""}, {"\U0001f600a", 4, "\U0001f600"},
		{"a\xff\xff\xffb", 2, "ab"}, {"\xff\xff", 0, ""}, {"\xffa", 0, ""}, {"\xffa", 1, "a"}, {"ab\xff", 2, "ab"}, {"\ufffda", 1, ""}, {"\ufffda", 3, "\ufffd"},
		{"a", math.MinInt, ""}, {"", math.MinInt, ""}, {"", -1, ""}, {"\xff", -1, ""}, {"a<", math.MaxInt, "a&lt;"}, {"a", math.MaxInt, "a"},
	} {
		if got := ToHtml(c.s, c.most); got != c.want {
			t.Errorf("ToHtml(%q, %d): %q, not %q", c.s, c.most, got, c.want)
		}
	}
}

// P16.4: of each sign, how it is written, and at which bound it has room.
func TestToHtmlOfEverySign(t *testing.T) {
	for c := rune(0); c <= utf8.MaxRune; c++ {
		if !utf8.ValidRune(c) {
			continue
		}
		s, want := string(c), string(c)
		switch c {
		case 0x26:
			want = "&amp;"
		case 0x3c:
			want = "&lt;"
		case 0x3e:
			want = "&gt;"
		case 0x22:
			want = "&quot;"
		case 0xa:
			want = "<BR>"
		}
		if got := ToHtml(s, len(want)); got != want {
			t.Fatalf("ToHtml(%x): %q", c, got)
		}
		if got := ToHtml(s, len(want)-1); got != "" {
			t.Fatalf("ToHtml(%x) without room: %q", c, got)
		}
		if got := ToHtml("x"+s+"y", plenty); got != "x"+want+"y" {
			t.Fatalf("ToHtml(x, %x, y): %q", c, got)
		}
	}
}

// P16.4: bytes that are no sign's are left out wherever they stand, what stands around them stays.
func TestToHtmlOfTornTexts(t *testing.T) {
	for _, torn := range tornTexts() {
		for _, s := range []string{torn, "a" + torn, torn + "a", "\ufffd" + torn, torn + "\u20ac<\n", "&" + torn + torn + ">"} {
			for most := -1; most < 30; most++ {
				lookAtToHtml(t, s, most)
			}
			if got := ToHtml(s, plenty); !utf8.ValidString(got) {
				t.Fatalf("ToHtml(%q): %q", s, got)
			}
		}
	}
	for a := range 256 {
		for b := range 256 {
			s := string([]byte{byte(a), byte(b)})
			lookAtToHtml(t, s, plenty)
			lookAtToHtml(t, "\xe2"+s+"<", 4)
		}
	}
}

// P16.4: short texts of what matters, at every bound around their lengths.
func TestToHtmlOfShortTexts(t *testing.T) {
	eachText([]string{"<", "&", "\n", `"`, "a", "\u00e9", "\xff", "\xe2\x82"}, 4, func(s string) {
		for most := -1; most <= 26; most++ {
			lookAtToHtml(t, s, most)
		}
	})
}

// P16.5: elements, entities, and what is neither.
func TestFromHtml(t *testing.T) {
	for s, want := range map[string]string{
		"": "", "abc": "abc", "<BR>": "\n", "<BR/>": "\n", "<br>": "\n", "<br/>": "\n", "<Br>": "\n", "<bR/>": "\n", "a<BR><br/>b": "a\n\nb",
		"<BR />": "", "<BR >": "", "< BR>": "", "</BR>": "", "<BRR>": "", "<BR//>": "", "</BR/>": "", "<B R>": "", "<BR\n>": "", "<BR x='1'>": "", "<B>": "", "<R>": "",
		"<>": "", "a<b>c": "ac", "<HTML><BODY>a</BODY></HTML>": "a", "<a\nb\x00\xff>c": "c", "<a <BR>b": "b", "<<BR>>": ">", "<<<a>b": "b", "<a><b": "<b",
		"<": "<", "<BR": "<BR", "<br/": "<br/", "a<b": "a<b", "<<": "<<", ">": ">", ">>": ">>", "a>b": "a>b", ">a<": ">a<", "b><BR": "b><BR", "><br>": ">\n",
		"<a&amp;": "<a&", "<a&amp;>": "", "<&lt;BR>": "", "a > b < c": "a > b < c", "<a href=\"x>y\">z": "y\">z",
		"&amp;": "&", "&lt;": "<", "&gt;": ">", "&quot;": `"`, "&nbsp;": " ", "&amp;lt;": "&lt;", "&amp;amp;": "&amp;", "&lt;BR&gt;": "<BR>", "&amp;nbsp;": "&nbsp;",
		"&lt;BR>": "<BR>", "<BR&gt;": "<BR>", "&lt;&lt;a>": "<<a>", "&&amp;": "&&", "&am&amp;p;": "&am&p;", "&nbsp;&nbsp;": "  ",
		"&AMP;": "&AMP;", "&Lt;": "&Lt;", "&GT;": "&GT;", "&amp": "&amp", "&lt ;": "&lt ;", "&apos;": "&apos;", "&#10;": "&#10;", "&#x26;": "&#x26;", "&": "&", "&;": "&;", "amp;": "amp;", "&nbsp": "&nbsp",
		"\xff": "\xff", "\xc3<b>\xa9": "\xc3\xa9", "a\x00\r\n\t": "a\x00\r\n\t", "\ufffd\xff<br>\ufffd": "\ufffd\xff\n\ufffd", "\xe2\x82&amp;\xac": "\xe2\x82&\xac", "\u20ac<BR>\u00e9": "\u20ac\n\u00e9",
		"<\xc3>a": "a", "<\xe2\x82": "<\xe2\x82", "<b\u00e9>": "", "&\u0430mp;": "&\u0430mp;", "<B\u211b>": "",
		"<HTML><b>a</b><Br/>b &amp;&nbsp;<c": "a\nb & <c",
	} {
		if got := FromHtml(s); got != want {
			t.Errorf("FromHtml(%q): %q, not %q", s, got, want)
		}
	}
}

// P16.5: whatever byte stands in it, or in place of one of its bytes, no other element is a line's end, and no other
// text an entity.
func TestFromHtmlOfOtherBytes(t *testing.T) {
	for _, mark := range []string{"<BR>", "<br/>", "&amp;", "&lt;", "&gt;", "&quot;", "&nbsp;"} {
		for i := range len(mark) + 1 {
			for b := range 256 {
				lookAtFromHtml(t, mark[:i]+string([]byte{byte(b)})+mark[i:]+"x")
				if i < len(mark) {
					lookAtFromHtml(t, mark[:i]+string([]byte{byte(b)})+mark[i+1:]+"x")
				}
			}
			lookAtFromHtml(t, mark[:i])
			lookAtFromHtml(t, mark[i:])
			lookAtFromHtml(t, mark[:i]+mark)
			lookAtFromHtml(t, mark[:i]+"\u20ac"+mark[i:])
		}
	}
}

// P16.5: short texts of what matters.
func TestFromHtmlOfShortTexts(t *testing.T) {
	eachText([]string{"<", ">", "b", "R", "/", "&", "lt;", "\xff"}, 6, func(s string) {
		lookAtFromHtml(t, s)
	})
}

// P16.4, P16.5: texts thrown together at random.
func TestHtmlAtRandom(t *testing.T) {
	r := rand.New(rand.NewSource(16))
	for range 60000 {
		s := anyText(r, bits(), 12)
		lookAtToHtml(t, s, r.Intn(60)-3)
		lookAtToHtml(t, s, plenty)
		lookAtFromHtml(t, s)
	}
}

// P16.6: FromHtml of ToHtml of a text is the text, if there is room for all of it; else it is a front of it.
func TestHtmlThereAndBack(t *testing.T) {
	look := func(s string) {
		if !utf8.ValidString(s) {
			return
		}
		whole := ToHtml(s, plenty)
		if got := FromHtml(whole); got != s {
			t.Fatalf("%q: %q, back as %q", s, whole, got)
		}
		for most := -1; most <= len(whole); most++ {
			html := ToHtml(s, most)
			got := FromHtml(html)
			if !strings.HasPrefix(whole, html) || !strings.HasPrefix(s, got) || !utf8.ValidString(got) || most == len(whole) && got != s {
				t.Fatalf("%q at %d: %q, back as %q", s, most, html, got)
			}
		}
	}
	eachText([]string{"<", ">", "&", `"`, "\n", "BR", "amp;", "/", "\u20ac"}, 5, look)
	r := rand.New(rand.NewSource(6))
	for range 10000 {
		look(anyText(r, bits(), 12))
	}
	look(strings.Repeat("<a>&\n\u20ac\"", 100))
}

// P16.7: ToHtml has no < but of <BR>, no other mark, and is not longer than most.
func TestHtmlHasNoMarks(t *testing.T) {
	r := rand.New(rand.NewSource(7))
	for range 60000 {
		s, most := anyText(r, bits(), 12), r.Intn(60)-3
		got := ToHtml(s, most)
		if len(got) > max(most, 0) {
			t.Fatalf("ToHtml(%q, %d): %q", s, most, got)
		}
		rest := strings.ReplaceAll(got, "<BR>", "")
		if strings.ContainsAny(rest, "<>\"\n") || !utf8.ValidString(rest) {
			t.Fatalf("ToHtml(%q, %d): %q", s, most, got)
		}
	}
}

// P16.7: a text without marks stays, there and back.
func TestTextWithoutMarksStays(t *testing.T) {
	r := rand.New(rand.NewSource(8))
	for range 20000 {
		s := anyText(r, []string{"a", "BR", " ", "\t", "\r", "\x00", "'", "/", ";", "amp;", "\u00e9", "\u00a0", "\ufffd", "\U0001f600"}, 12)
		if got := ToHtml(s, len(s)); got != s {
			t.Fatalf("ToHtml(%q): %q", s, got)
		}
		if got := FromHtml(s); got != s {
			t.Fatalf("FromHtml(%q): %q", s, got)
		}
	}
}

// Long texts are gone through once: one of many < without an end, too.
func TestLongTexts(t *testing.T) {
	const n = 1 << 21
	for _, s := range []string{"<", "&", ">", "<BR", "&am"} {
		long := strings.Repeat(s, n)
		if got := FromHtml(long); got != long {
			t.Errorf("FromHtml of many %q: %d bytes", s, len(got))
		}
	}
	for s, want := range map[string]string{"<BR>": "\n", "&amp;": "&", "<a>": "", "\xff": "\xff"} {
		if got := FromHtml(strings.Repeat(s, n)); got != strings.Repeat(want, n) {
			t.Errorf("FromHtml of many %q: %d bytes", s, len(got))
		}
	}
	if got := FromHtml(">" + strings.Repeat("<", n) + ">x"); got != ">x" {
		t.Errorf("FromHtml of many < with one end: %d bytes", len(got))
	}
	for s, want := range map[string]string{"<": "&lt;", "\n": "<BR>", "a": "a", "\xff": ""} {
		if got := ToHtml(strings.Repeat(s, n), math.MaxInt); got != strings.Repeat(want, n) {
			t.Errorf("ToHtml of many %q: %d bytes", s, len(got))
		}
	}
	if got := ToHtml(strings.Repeat("&", n), 2000); got != strings.Repeat("&amp;", 400) {
		t.Errorf("ToHtml at 2000: %d bytes", len(got))
	}
}

// within tells whether part lies in the bytes of s.
func within(s, part string) bool {
	if part == "" || s == "" {
		return false
	}
	from, at := uintptr(unsafe.Pointer(unsafe.StringData(s))), uintptr(unsafe.Pointer(unsafe.StringData(part)))
	return at >= from && at < from+uintptr(len(s))
}

// Answers share nothing with what was handed in, nor with each other.
func TestApart(t *testing.T) {
	for _, s := range []string{"abcdefgh", "a<b>c", strings.Repeat("x", 5000), "\u20ac<BR>a&amp;"} {
		for _, most := range []int{3, 100, plenty} {
			one, other := ToHtml(s, most), ToHtml(s, most)
			if within(s, one) || within(one, other) {
				t.Errorf("ToHtml(%q, %d) shares", s, most)
			}
		}
		one, other := FromHtml(s), FromHtml(s)
		if within(s, one) || within(one, other) {
			t.Errorf("FromHtml(%q) shares", s)
		}
	}
}
