package handle

import (
	"regexp"
	"strings"
	"testing"

	"wharf/api"
	"wharf/escape"
	"wharf/jid"
)

// The words of P4.1, as patterns: what they count is asked beside them.
var (
	numberForm = regexp.MustCompile(`\A[1-9][0-9]{4,8}\z`)
	screenForm = regexp.MustCompile(`\A[a-zA-Z][a-zA-Z0-9 .@]*\z`)
)

func checkOf(s string) api.Errno {
	if numberForm.MatchString(s) {
		return api.OK
	}
	if !screenForm.MatchString(s) || len(s) > 16 || len(strings.ReplaceAll(s, " ", "")) < 3 {
		return api.ErrHandle
	}
	if strings.HasSuffix(s, " ") || strings.HasSuffix(s, "@") || strings.Count(s, "@") > 1 {
		return api.ErrHandle
	}
	return api.OK
}

// normOf goes by bytes, as P1.4 and P4.2 say it.
func normOf(s string) string {
	var out []byte
	for _, c := range []byte(s) {
		switch {
		case 'A' <= c && c <= 'Z':
			out = append(out, c+0x20)
		case c != 0x20:
			out = append(out, c)
		}
	}
	return string(out)
}

// nodeOf lays the Node of a name: of what may be in one, @ alone must be escaped.
func nodeOf(s string) string {
	return strings.ReplaceAll(normOf(s), "@", `\40`)
}

// eachText calls look with all texts of at most n of these pieces.
func eachText(pieces []string, n int, look func(s string)) {
	var grow func(s string, left int)
	grow = func(s string, left int) {
		look(s)
		if left == 0 {
			return
		}
		for _, p := range pieces {
			grow(s+p, left-1)
		}
	}
	grow("", n)
}

func eachByte(look func(b string)) {
	for a := range 256 {
		look(string([]byte{byte(a)}))
	}
}

func lookAtCheck(t *testing.T, s string, want api.Errno) {
	t.Helper()
	if got := Check(s); got != want {
		t.Fatalf("Check(%q): %d, not %d", s, got, want)
	}
}

func goodNames() []string {
	return []string{"joe", "JOE", "Joe Blow", "J o e", "a  bc", "a      b      c", "joe@mac.com", "A@B", "a@ b", "a @b", "a.b", "a..", "a...", "a12", "a 1 2", "a.@.", "Z9z9Z9z9Z9z9Z9z9",
		"sixteenletters16", "J@456789012345.6", "12345", "123456", "1234567", "12345678", "123456789", "10000", "999999999"}
}

func badNames() []string {
	return []string{"", " ", "a", "ab", "a b", "A  B", "a              b", " joe", "joe ", "joe  ", "@joe", "joe@", "j@e@x", "a@@b", "joe@ ", ".joe", "1joe", "0joe", "joe_x", "joe-x", "joe\tx", "joe\n", "joe\x00", "joe/x", `joe\41x`, "jo\u00e9", "\u00e9joe", "jo\xff", "\u212ajoe", "joe\u00a0x",
		"seventeenletters1", "a               b", "sixteenletters16 ", "abc             d", "1", "1234", "1234567890", "01234", "00000", "012345678", "12 345", "12345 ", " 12345", "12345a", "1234.5", "+12345", "-12345", "12345@", "\u0661\u0662\u0663\u0664\u0665", "12345\n"}
}

// P4.1: names that may be, and texts that may not, listed.
func TestCheck(t *testing.T) {
	for _, s := range goodNames() {
		lookAtCheck(t, s, api.OK)
	}
	for _, s := range badNames() {
		lookAtCheck(t, s, api.ErrHandle)
	}
	lookAtCheck(t, `joe\40x`, api.ErrHandle) // an escape is no name's, though an address may tell joe@x by it
}

// P4.1: every byte, alone, in front, within, and at the end of names of both kinds.
func TestCheckOfEveryByte(t *testing.T) {
	const letters = "abcdefghijklmnopqrstuvwxyzABCDEFGHIJKLMNOPQRSTUVWXYZ"
	const digits = "0123456789"
	eachByte(func(b string) {
		want := func(may string) api.Errno {
			if strings.Contains(may, b) {
				return api.OK
			}
			return api.ErrHandle
		}
		lookAtCheck(t, b, api.ErrHandle)
		lookAtCheck(t, b+"oe", want(letters))
		lookAtCheck(t, "j"+b+"oe", want(letters+digits+" .@"))
		lookAtCheck(t, "joe"+b, want(letters+digits+"."))
		lookAtCheck(t, "j"+b+"e", want(letters+digits+".@"))
		lookAtCheck(t, "a@b"+b+"c", want(letters+digits+" ."))
		lookAtCheck(t, b+"2345", want(digits[1:]+letters))
		lookAtCheck(t, "12"+b+"45", want(digits))
		lookAtCheck(t, "1234"+b, want(digits))
		lookAtCheck(t, "12345678"+b, want(digits))
	})
}

// P4.1: no sign above 7f may be in a name, nor may its bytes.
func TestCheckOfSignsAbove7f(t *testing.T) {
	for c := 0x80; c <= api.MaxGlyph; c++ {
		s := string(rune(c))
		for _, name := range []string{s + "oe", "j" + s + "e", "joe" + s, "1234" + s + "5"} {
			lookAtCheck(t, name, api.ErrHandle)
		}
	}
}

// P4.1: numbers have 5 to 9 digits, screen names at most 16 bytes, 3 of which are no blanks.
func TestCheckOfLengths(t *testing.T) {
	long := func(first, rest string, n int) string { return first + strings.Repeat(rest, n-1) }
	want := func(ok bool) api.Errno {
		if ok {
			return api.OK
		}
		return api.ErrHandle
	}
	for _, n := range []int{1, 2, 3, 4, 5, 6, 7, 8, 9, 10, 11, 14, 15, 16, 17, 18, 32, 255, 256, 257, 258, 259, 260, 261, 70000} {
		lookAtCheck(t, long("1", "0", n), want(5 <= n && n <= 9))
		lookAtCheck(t, long("9", "9", n), want(5 <= n && n <= 9))
		lookAtCheck(t, long("0", "1", n), api.ErrHandle)
		lookAtCheck(t, long("Z", "z", n), want(3 <= n && n <= 16))
		lookAtCheck(t, long("a", ".", n), want(3 <= n && n <= 16))
		lookAtCheck(t, long("a", "7", n), want(3 <= n && n <= 16))
		lookAtCheck(t, long("a", " ", n), api.ErrHandle)
		lookAtCheck(t, long("a", " ", n)+"b", api.ErrHandle)
		lookAtCheck(t, long("a", " ", n)+"bc", want(n <= 14))
		lookAtCheck(t, long("a", "b", n)+"@c", want(n <= 14))
	}
}

// P4.1: all short texts of what matters go as the words say.
func TestCheckOfAllShortTexts(t *testing.T) {
	eachText([]string{"a", "Z", "0", "1", " ", ".", "@", "_"}, 6, func(s string) { lookAtCheck(t, s, checkOf(s)) })
	eachText([]string{"b", "@", " ", "1"}, 8, func(s string) { lookAtCheck(t, s, checkOf(s)) })
	eachText([]string{"1", "0", "a"}, 10, func(s string) { lookAtCheck(t, s, checkOf(s)) })
}

// P4.1: at the bound of MaxHandle all endings go as the words say.
func TestCheckOfLongNames(t *testing.T) {
	for _, front := range []string{"abcdefghijkl", "a           ", "a@cdefghijkl", "A 2.4 6.8 0.2"} {
		eachText([]string{"a", "9", " ", ".", "@", "-"}, 5, func(s string) { lookAtCheck(t, front+s, checkOf(front+s)) })
	}
}

// P4.2: A to Z alone are folded, the byte 20 alone goes, wherever they stand; whether s is a name is not asked.
func TestNorm(t *testing.T) {
	eachByte(func(b string) {
		for _, s := range []string{b, b + "x", "x" + b + b + "y", "x" + b, "\xc3" + b} {
			if got, want := Norm(s), normOf(s); got != want {
				t.Fatalf("Norm(%q): %q, not %q", s, got, want)
			}
		}
	})
	for s, want := range map[string]string{
		"": "", " ": "", "     ": "", "Joe Blow": "joeblow", "  J  O  E  ": "joe", "joe@Mac.com": "joe@mac.com", "12 345": "12345", "a\tb\n": "a\tb\n",
		"a\u00a0B": "a\u00a0b", "\u00c9 A": "\u00c9a", "\u212a K": "\u212ak", "\xff \x80": "\xff\x80", "AZ[@`{ az": "az[@`{az", strings.Repeat("A ", 70000): strings.Repeat("a", 70000),
	} {
		if got := Norm(s); got != want {
			t.Errorf("Norm(%q): %q, not %q", s, got, want)
		}
	}
}

// P4.2: Norm of Norm is the same again, and is a name if that was one.
func TestNormOfNorm(t *testing.T) {
	eachText([]string{"a", "B", "1", " ", ".", "@", "_"}, 6, func(s string) {
		n := Norm(s)
		if n != normOf(s) || Norm(n) != n || !Same(n, s) {
			t.Fatalf("Norm(%q): %q, then %q", s, n, Norm(n))
		}
		if Check(s) == api.OK && Check(n) != api.OK {
			t.Fatalf("%q is a name, %q is none", s, n)
		}
	})
}

// P4.2: of all pairs of short texts, those are the same of which Norm is.
func TestSame(t *testing.T) {
	var texts []string
	eachText([]string{"a", "A", "b", " ", "1", "@", "\u00c9"}, 3, func(s string) { texts = append(texts, s) })
	for _, a := range texts {
		for _, b := range texts {
			if got, want := Same(a, b), normOf(a) == normOf(b); got != want {
				t.Fatalf("Same(%q, %q): %t", a, b, got)
			}
		}
	}
	for _, c := range []struct {
		a, b string
		want bool
	}{
		{"", "", true}, {"", "  ", true}, {"Joe Blow", "joeblow", true}, {"J OE", "j o e", true}, {"joe", "joes", false}, {"joe", "jo", false}, {"joe", "eoj", false},
		{"joe.", "joe", false}, {"12345", "12 345", true}, {"joe\t", "joe", false}, {"\u00e9a", "\u00c9a", false}, {"\u212a", "k", false}, {"@", "`", false}, {"[", "{", false},
	} {
		if Same(c.a, c.b) != c.want || Same(c.b, c.a) != c.want {
			t.Errorf("Same(%q, %q): not %t", c.a, c.b, c.want)
		}
	}
}

func lookAtToJid(t *testing.T, s, domain string, want api.Jid, wantErr api.Errno) {
	t.Helper()
	if got, err := ToJid(s, domain); got != want || err != wantErr {
		t.Fatalf("ToJid(%q, %q): %q, %d, not %q, %d", s, domain, got, err, want, wantErr)
	}
}

func lookAtFromJid(t *testing.T, j api.Jid, domain, want string, wantErr api.Errno) {
	t.Helper()
	if got, err := FromJid(j, domain); got != want || err != wantErr {
		t.Fatalf("FromJid(%q, %q): %q, %d, not %q, %d", j, domain, got, err, want, wantErr)
	}
}

func goodDomains() []string {
	return []string{"x", "aim.x", "icq.example.com", "a-b.1", "127.0.0.1", strings.Repeat("d", 1023)}
}

func badDomains() []string {
	return []string{"", ".", "x.", ".x", "x..y", "Aim.x", "aim.X", "a b", "a@b", "a/b", "a_b", "\u00e9", "x\x00", "\xff", strings.Repeat("d", 1024)}
}

// P4.3: a name has an address in each domain that may be, with neither a great letter, nor a blank, nor a Resource.
func TestToJid(t *testing.T) {
	for s, want := range map[string]string{
		"Joe Blow": "joeblow", "joe": "joe", "J o E": "joe", "joe@mac.com": `joe\40mac.com`, "Joe @ Mac.Com": `joe\40mac.com`, "a.@.": `a.\40.`, "A@B": `a\40b`,
		"12345": "12345", "999999999": "999999999", "sixteenletters16": "sixteenletters16", "a40 @ 40": `a40\4040`, "a @5c40": `a\405c40`,
	} {
		for _, d := range goodDomains() {
			lookAtToJid(t, s, d, api.Jid{Node: want, Domain: d}, api.OK)
		}
	}
}

// P4.3: what is no name has no address, and no name has one in a domain that may not be.
func TestToJidRefuses(t *testing.T) {
	for _, s := range badNames() {
		for _, d := range append(goodDomains(), badDomains()...) {
			lookAtToJid(t, s, d, api.Jid{}, api.ErrHandle)
		}
	}
	for _, d := range badDomains() {
		for _, s := range goodNames() {
			lookAtToJid(t, s, d, api.Jid{}, api.ErrHandle)
		}
	}
}

// P4.3: an address in that domain tells its name, its Resource having no part.
func TestFromJid(t *testing.T) {
	for node, want := range map[string]string{
		"joe": "joe", `joe\40mac.com`: "joe@mac.com", "joe@mac.com": "joe@mac.com", `a.\40.`: "a.@.", "a.b": "a.b", "12345": "12345", "999999999": "999999999", `abcdefghijklmn\40o`: "abcdefghijklmn@o",
	} {
		for _, d := range append(goodDomains(), badDomains()...) {
			for _, r := range []string{"", "r", "Balcony", "a/b@c", "\x00"} {
				lookAtFromJid(t, api.Jid{Node: node, Domain: d, Resource: r}, d, want, api.OK)
			}
		}
	}
}

// P4.3: an address in another domain is refused: domains are compared byte by byte.
func TestFromJidRefusesOtherDomains(t *testing.T) {
	for _, c := range [][2]string{{"aim.x", "icq.x"}, {"aim.x", "aim.X"}, {"AIM.x", "aim.x"}, {"aim.x.", "aim.x"}, {"aim.x", "aim.x."}, {"aim.x", "x"}, {"x", "aim.x"}, {"aim.x", ""}, {"", "aim.x"}, {"aim.x", "aim.x/r"}, {"aim.x", "joe@aim.x"}} {
		for _, node := range []string{"joe", `joe\40mac.com`, "12345", "", "Joe"} {
			lookAtFromJid(t, api.Jid{Node: node, Domain: c[0]}, c[1], "", api.ErrHandle)
		}
	}
}

// P4.3: what a Node tells must be a name, and in the form of Norm.
func TestFromJidRefuses(t *testing.T) {
	nodes := []string{"", "Joe", "joE", "JOE", "joe blow", `joe\20blow`, `\20joe`, `joe\20`, `joe\40`, `\40joe`, `a\40b\40c`, `a\40b@c`, `joe\5cx`, `joe\5c40x`, `joe\2fx`, `joe\3ax`, `joe\41`, `joe\4`, `joe\`, `joe\4Ax`, `\6aoe`,
		"ab", `a\20b`, "1234", "01234", "1234567890", `12\20345`, "12 345", "seventeenletters1", `abcdefghijklmno\40p`, "jo\u00e9", "joe\xff", "joe_x", strings.Repeat("a", 70000), strings.Repeat(`\40`, 70000)}
	for _, node := range append(nodes, badNames()...) {
		lookAtFromJid(t, api.Jid{Node: node, Domain: "aim.x"}, "aim.x", "", api.ErrHandle)
		lookAtFromJid(t, api.Jid{Node: node, Domain: "aim.x", Resource: "r"}, "aim.x", "", api.ErrHandle)
	}
	lookAtFromJid(t, api.Jid{}, "", "", api.ErrHandle)
	lookAtFromJid(t, api.Jid{Resource: "joe"}, "", "", api.ErrHandle)
	lookAtFromJid(t, api.Jid{Domain: "joe"}, "joe", "", api.ErrHandle)
}

// P4.3: all short Nodes of what matters go as the words say.
func TestFromJidOfAllShortNodes(t *testing.T) {
	told := 0
	eachText([]string{"a", "B", "1", `\`, "40", "20", "@", " ", "."}, 5, func(node string) {
		want, wantErr := escape.Unescape(node), api.OK
		if checkOf(want) != api.OK || normOf(want) != want {
			want, wantErr = "", api.ErrHandle
		}
		if wantErr == api.OK {
			told++
		}
		lookAtFromJid(t, api.Jid{Node: node, Domain: "aim.x", Resource: "r"}, "aim.x", want, wantErr)
	})
	if told < 100 {
		t.Errorf("%d Nodes alone tell a name", told)
	}
}

// P4.4: a name comes back in the form of Norm; the same names have one address, others have others.
func TestThereAndBack(t *testing.T) {
	byNode, byNorm := map[string]string{}, map[string]string{}
	look := func(s string) {
		if checkOf(s) != api.OK {
			lookAtToJid(t, s, "aim.x", api.Jid{}, api.ErrHandle)
			return
		}
		j, err := ToJid(s, "aim.x")
		if want := (api.Jid{Node: nodeOf(s), Domain: "aim.x"}); j != want || err != api.OK || jid.Check(j) != api.OK {
			t.Fatalf("ToJid(%q): %q, %d", s, j, err)
		}
		lookAtFromJid(t, j, "aim.x", normOf(s), api.OK)
		lookAtFromJid(t, j, "icq.x", "", api.ErrHandle)
		if was, ok := byNode[j.Node]; ok && was != normOf(s) {
			t.Fatalf("%q and %q have one address", s, was)
		}
		if was, ok := byNorm[normOf(s)]; ok && was != j.Node {
			t.Fatalf("%q has the addresses of %q and of %q", s, was, j.Node)
		}
		byNode[j.Node], byNorm[normOf(s)] = normOf(s), j.Node
	}
	eachText([]string{"a", "A", "b", " ", "4", "0", ".", "@"}, 6, look)
	for _, s := range append(goodNames(), badNames()...) {
		look(s)
	}
	if len(byNode) != len(byNorm) || len(byNode) < 1000 {
		t.Errorf("%d addresses of %d names", len(byNode), len(byNorm))
	}
}

// P4.4: the same names have the same address, whatever their case and blanks.
func TestTheSameNamesHaveOneAddress(t *testing.T) {
	for _, a := range goodNames() {
		for _, b := range goodNames() {
			one, err := ToJid(a, "aim.x")
			other, err2 := ToJid(b, "aim.x")
			if err != api.OK || err2 != api.OK || (one == other) != Same(a, b) || Same(a, b) != (normOf(a) == normOf(b)) {
				t.Errorf("%q and %q: %q and %q", a, b, one, other)
			}
		}
	}
}

// The chapter's examples.
func TestExamples(t *testing.T) {
	lookAtToJid(t, "Joe Blow", "aim.x", api.Jid{Node: "joeblow", Domain: "aim.x"}, api.OK)
	lookAtToJid(t, "joe@mac.com", "aim.x", api.Jid{Node: `joe\40mac.com`, Domain: "aim.x"}, api.OK)
	if j, _ := ToJid("joe@mac.com", "aim.x"); jid.Put(j) != `joe\40mac.com@aim.x` {
		t.Errorf("the address of joe@mac.com is %q", jid.Put(j))
	}
	lookAtCheck(t, "01234", api.ErrHandle)
}
