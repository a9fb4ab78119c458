package glyph

import (
	"math"
	"strings"
	"testing"

	"wharf/api"
)

// signBytes lays a sign by the words of P1.1, bit by bit.
func signBytes(c int) string {
	low := func(shift int) byte { return byte(0x80 | c>>shift&0x3f) }
	switch {
	case c < 0x80:
		return string([]byte{byte(c)})
	case c < 0x800:
		return string([]byte{byte(0xc0 | c>>6), low(0)})
	case c < 0x10000:
		return string([]byte{byte(0xe0 | c>>12), low(6), low(0)})
	}
	return string([]byte{byte(0xf0 | c>>18), low(12), low(6), low(0)})
}

func signOf(c int) bool {
	return c >= 0 && c <= 0x10ffff && (c < 0xd800 || c > 0xdfff)
}

func plainOf(c int) bool {
	return signOf(c) && (c == 9 || c == 10 || c == 13 || c >= 32) && c != 0xfffe && c != 0xffff
}

// tornTexts begin with the bytes of no sign.
func tornTexts() []string {
	return []string{
		"\x80", "\xbf", "\x80a", // an inner byte in front
		"\xc0\x80", "\xc1\xbf", "\xe0\x80\x80", "\xe0\x9f\xbf", "\xf0\x80\x80\x80", "\xf0\x8f\xbf\xbf", // more bytes than need be
		"\xed\xa0\x80", "\xed\xbf\xbf", // halves of pairs
		"\xf4\x90\x80\x80", "\xf5\x80\x80\x80", "\xf8\x88\x80\x80\x80", "\xfe", "\xff", // above MaxGlyph
		"\xc3", "\xe2\x82", "\xf0\x9f\x98", "\xc3a", "\xe2\x82a", "\xf0\x9f\x98a", "\xc3\xc3\xa9", // cut off
	}
}

// edgeSigns stand at the bounds that P1.1 and P1.3 name.
func edgeSigns() []int {
	return []int{0, 8, 9, 0xa, 0xb, 0xc, 0xd, 0xe, 0x1f, 0x20, 0x7e, 0x7f, 0x80, 0x9f, 0x7ff, 0x800, 0xd7ff, 0xe000,
		0xfffc, 0xfffd, 0xfffe, 0xffff, 0x10000, 0x1fffe, 0x1ffff, 0x10fffe, 0x10ffff}
}

// P1.1, P1.5: every sign is laid as the words say, and comes back.
func TestPutAndFirstOfEverySign(t *testing.T) {
	for c := range api.MaxGlyph + 1 {
		if !signOf(c) {
			continue
		}
		s, err := Put(c)
		if s != signBytes(c) || err != api.OK {
			t.Fatalf("Put(%x): %x, %d", c, s, err)
		}
		for _, tail := range []string{"", "a", "\x80", "\xff", "\xc3\xa9"} {
			if got, n, err := First(s + tail); got != c || n != len(s) || err != api.OK {
				t.Fatalf("First(%x): %x, %d, %d", s+tail, got, n, err)
			}
		}
	}
}

// P1.1: what is no sign is refused, also where its lowest bits are one.
func TestPutRefusesWhatIsNoSign(t *testing.T) {
	for c := 0xd800; c <= 0xdfff; c++ {
		if s, err := Put(c); s != "" || err != api.ErrGlyph {
			t.Fatalf("Put(%x): %x, %d", c, s, err)
		}
	}
	for _, c := range []int{-1, -0x20, 0x110000, 0x7fffffff, 1<<32 + 'a', -1<<32 + 'a', math.MaxInt, math.MinInt} {
		if s, err := Put(c); s != "" || err != api.ErrGlyph {
			t.Errorf("Put(%x): %x, %d", c, s, err)
		}
	}
}

// P1.2: what begins with no sign is refused.
func TestFirstRefusesWhatBeginsWithNone(t *testing.T) {
	for _, s := range append(tornTexts(), "") {
		if c, n, err := First(s); c != 0 || n != 0 || err != api.ErrGlyph {
			t.Errorf("First(%x): %x, %d, %d", s, c, n, err)
		}
	}
}

// P1.2: of all texts of up to three bytes, and of many of four, First takes just those that begin with the bytes of a sign.
func TestFirstOfShortTexts(t *testing.T) {
	known := map[string]int{}
	for c := range api.MaxGlyph + 1 {
		if signOf(c) {
			known[signBytes(c)] = c
		}
	}
	look := func(s string) {
		want, width, wantErr := 0, 0, api.ErrGlyph
		for n := 1; n <= len(s); n++ {
			if c, ok := known[s[:n]]; ok {
				want, width, wantErr = c, n, api.OK
			}
		}
		if c, n, err := First(s); c != want || n != width || err != wantErr {
			t.Fatalf("First(%x): %x, %d, %d", s, c, n, err)
		}
	}
	for a := range 256 {
		look(string([]byte{byte(a)}))
		for b := range 256 {
			look(string([]byte{byte(a), byte(b)}))
			for _, c := range []byte{0, 'a', 0x7f, 0x80, 0x9f, 0xa0, 0xbf, 0xc0, 0xff} {
				look(string([]byte{byte(a), byte(b), c}))
				for _, d := range []byte{0, 0x7f, 0x80, 0xbf, 0xc0, 0xff} {
					look(string([]byte{byte(a), byte(b), c, d}))
				}
			}
		}
	}
}

// P1.3: of each sign, alone and among others, Check and Len tell whether it is plain.
func TestCheckAndLenOfEverySign(t *testing.T) {
	for c := range api.MaxGlyph + 1 {
		if !signOf(c) {
			continue
		}
		want, count := api.ErrGlyph, 0
		if plainOf(c) {
			want, count = api.OK, 1
		}
		s := signBytes(c)
		if err := Check(s); err != want {
			t.Fatalf("Check(%x): %d", c, err)
		}
		if n, err := Len(s); n != count || err != want {
			t.Fatalf("Len(%x): %d, %d", c, n, err)
		}
		if n, err := Len("a" + s + "\u20ac"); n != 3*count || err != want {
			t.Fatalf("Len of three with %x: %d, %d", c, n, err)
		}
	}
}

// P1.3: bytes of no sign are refused wherever they stand.
func TestCheckAndLenRefuseBytesOfNoSign(t *testing.T) {
	for _, torn := range tornTexts() {
		for _, s := range []string{torn, "a" + torn, torn + "a", "\ufffd" + torn, torn + "\ufffd", "ab\u20ac" + torn} {
			if err := Check(s); err != api.ErrGlyph {
				t.Errorf("Check(%x): %d", s, err)
			}
			if n, err := Len(s); n != 0 || err != api.ErrGlyph {
				t.Errorf("Len(%x): %d, %d", s, n, err)
			}
		}
	}
}

// P1.3: signs are counted, not bytes.
func TestLenOfTexts(t *testing.T) {
	for s, want := range map[string]int{"": 0, "abc": 3, "a\tb\n\r": 5, "a\u20ac": 2, "\ufffd": 1, "\ufffd\ufffda": 3, "\u00e9\U0001f600\u007f": 3, strings.Repeat("\u00e9", 70000): 70000} {
		if n, err := Len(s); n != want || err != api.OK {
			t.Errorf("Len(%x): %d, %d", s, n, err)
		}
		if err := Check(s); err != api.OK {
			t.Errorf("Check(%x): %d", s, err)
		}
	}
}

// P1.4, P1.6: of all bytes A to Z alone are folded, and those of no sign stay.
func TestFoldOfEveryByte(t *testing.T) {
	for a := range 256 {
		want := byte(a)
		if strings.ContainsRune("ABCDEFGHIJKLMNOPQRSTUVWXYZ", rune(a)) {
			want += 0x20
		}
		for _, around := range []string{"", "x", "\xc3", "\x80"} {
			s := around + string([]byte{byte(a)}) + around
			if got := Fold(s); got != around+string([]byte{want})+around {
				t.Fatalf("Fold(%x): %x", s, got)
			}
		}
	}
	for s, want := range map[string]string{"": "", "AbZ[@`{": "abz[@`{", "\u00c9A\u0130\u212aK": "\u00c9a\u0130\u212ak"} {
		if got := Fold(s); got != want {
			t.Errorf("Fold(%q): %q", s, got)
		}
	}
}

// P1.4: the four blanks alone are taken off, at both ends alone.
func TestTrim(t *testing.T) {
	for a := range 256 {
		b := string([]byte{byte(a)})
		want := b + "x" + b + "y" + b
		if a == 0x20 || a == 9 || a == 0xa || a == 0xd {
			want = "x" + b + "y"
		}
		if got := Trim(b + "x" + b + "y" + b); got != want {
			t.Fatalf("Trim around %x: %x", a, got)
		}
	}
	for s, want := range map[string]string{"": "", " ": "", " \t\r\n \t": "", " \ta b\r\n": "a b", "a": "a", " a": "a", "a ": "a", "\u00a0a\u2003": "\u00a0a\u2003", " \x80\xff ": "\x80\xff"} {
		if got := Trim(s); got != want {
			t.Errorf("Trim(%x): %x", s, got)
		}
	}
}

// headOf finds the front by trying all of them, as P1.4 says it.
func headOf(s string, n int) string {
	best := ""
	for i := 0; i <= len(s) && i <= n; i++ {
		if i == len(s) || s[i]&0xc0 != 0x80 {
			best = s[:i]
		}
	}
	return best
}

// P1.4: Head cuts where no sign is torn, at every length.
func TestHead(t *testing.T) {
	for _, c := range []struct {
		s    string
		n    int
		want string
	}{
		{"a\u00e9", 2, "a"}, {"a\u00e9", 3, "a\u00e9"}, {"a\u00e9", 1, "a"}, {"a\u00e9", 0, ""}, {"ab", -1, ""}, {"\u00e9", 1, ""},
		{"\U0001f600b", 3, ""}, {"\U0001f600b", 4, "\U0001f600"}, {"", 0, ""}, {"", 5, ""}, {"", -5, ""},
		{"ab", 99, "ab"}, {"ab", math.MaxInt, "ab"}, {"ab", math.MinInt, ""}, {"\u00e9", math.MinInt, ""},
		{"\x80\x80", 1, ""}, {"\x80\x80", 2, "\x80\x80"}, {"\x80\x80", 0, ""}, {"a\x80\x80\x80\x80\x80b", 5, ""}, {"a\x80\x80\x80\x80\x80b", 6, "a\x80\x80\x80\x80\x80"},
		{"\xc3", 1, "\xc3"}, {"\xc3b", 1, "\xc3"}, {"\xff\xff", 1, "\xff"}, {"\xc3\xc3\xa9", 2, "\xc3"},
	} {
		if got := Head(c.s, c.n); got != c.want {
			t.Errorf("Head(%x, %d): %x", c.s, c.n, got)
		}
	}
	for _, s := range append(tornTexts(), "", "abc", "a\u00e9\u20ac\U0001f600z", "\xf0\x9f\x98\x80\x80\x80a\xbf", "\xc3\xa9\xa9\xa9") {
		for n := -2; n <= len(s)+2; n++ {
			if got, want := Head(s, n), headOf(s, n); got != want {
				t.Errorf("Head(%x, %d): %x, not %x", s, n, got, want)
			}
		}
	}
}

// P1.5: a text is the Puts of its signs.
func TestTextIsThePutsOfItsSigns(t *testing.T) {
	text := ""
	for _, c := range edgeSigns() {
		text += signBytes(c)
	}
	for _, s := range []string{"", "abc", "\ufffdx\ufffd", text} {
		back, count := "", 0
		for rest := s; rest != ""; count++ {
			c, n, err := First(rest)
			if err != api.OK {
				t.Fatalf("First(%x): %d", rest, err)
			}
			b, err := Put(c)
			if err != api.OK || len(b) != n {
				t.Fatalf("Put(%x): %x, %d", c, b, err)
			}
			back += b
			rest = rest[n:]
		}
		if back != s {
			t.Errorf("%x came back as %x", s, back)
		}
		if n, err := Len(s); err == api.OK && n != count {
			t.Errorf("Len(%x): %d, not %d", s, n, count)
		}
	}
}

// sameButForCase compares byte by byte, A to Z being as a to z.
func sameButForCase(a, b string) bool {
	if len(a) != len(b) {
		return false
	}
	for i := range len(a) {
		x, y := a[i], b[i]
		letter := 'a' <= x|0x20 && x|0x20 <= 'z'
		if x != y && (!letter || x|0x20 != y|0x20) {
			return false
		}
	}
	return true
}

// P1.6: lengths stay, a second Fold changes nothing, and what differs by more than case stays apart.
func TestFolded(t *testing.T) {
	texts := append(tornTexts(), "", "a", "A", "Aa", "aA", "Z", "z", "[", "{", "@", "`", "K", "k", "\u212a", "\u0130", "i", "I", "\u00c9", "\u00e9", "AZ[", "az{", "az[", "a b", "A B")
	for _, a := range texts {
		f := Fold(a)
		if len(f) != len(a) || Fold(f) != f {
			t.Errorf("Fold(%x): %x, then %x", a, f, Fold(f))
		}
		for _, b := range texts {
			if (Fold(a) == Fold(b)) != sameButForCase(a, b) {
				t.Errorf("Fold of %x and %x: %x and %x", a, b, Fold(a), Fold(b))
			}
		}
	}
}

// The chapter's examples.
func TestExamples(t *testing.T) {
	if c, n, err := First("\xc3\xa9"); c != 0xe9 || n != 2 || err != api.OK {
		t.Error("First(c3 a9):", c, n, err)
	}
	if err := Check("a\x00"); err != api.ErrGlyph {
		t.Error("Check(a, 0):", err)
	}
	if s := Head("a\xc3\xa9", 2); s != "a" {
		t.Errorf("Head(a c3 a9, 2): %x", s)
	}
}
