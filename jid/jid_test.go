package jid

import (
	"strings"
	"testing"
	"unicode/utf8"

	"wharf/api"
)

// partOf says by the words of P3.1 what each part may have.
func partOf(s string) bool {
	if len(s) > 1023 || !utf8.ValidString(s) {
		return false
	}
	for _, r := range s {
		if r < 0x20 || r == 0x7f || r == 0xfffe || r == 0xffff {
			return false
		}
	}
	return true
}

func nodeOf(s string) bool {
	for _, c := range []byte(s) {
		switch c {
		case 0x20, 0x22, 0x26, 0x27, 0x2f, 0x3a, 0x3c, 0x3e, 0x40:
			return false
		}
		if 'A' <= c && c <= 'Z' {
			return false
		}
	}
	return true
}

func domainOf(s string) bool {
	for _, c := range []byte(s) {
		if !('a' <= c && c <= 'z' || '0' <= c && c <= '9' || c == '-' || c == '.') {
			return false
		}
	}
	return s != "" && s[0] != '.' && s[len(s)-1] != '.' && !strings.Contains(s, "..")
}

func checkOf(j api.Jid) api.Errno {
	if partOf(j.Node) && partOf(j.Domain) && partOf(j.Resource) && nodeOf(j.Node) && domainOf(j.Domain) {
		return api.OK
	}
	return api.ErrJid
}

// foldOf goes by bytes, as P1.4 says it.
func foldOf(s string) string {
	out := ""
	for _, c := range []byte(s) {
		if 'A' <= c && c <= 'Z' {
			c += 0x20
		}
		out += string([]byte{c})
	}
	return out
}

func normOf(j api.Jid) api.Jid {
	j.Node, j.Domain = foldOf(j.Node), foldOf(j.Domain)
	if j.Domain != "" && j.Domain[len(j.Domain)-1] == '.' {
		j.Domain = j.Domain[:len(j.Domain)-1]
	}
	return j
}

// parseOf says P3.3 by its words, place by place.
func parseOf(s string) (api.Jid, api.Errno) {
	j := api.Jid{Domain: s}
	if at := strings.IndexByte(j.Domain, '/'); at >= 0 {
		j.Domain, j.Resource = s[:at], s[at+1:]
		if j.Resource == "" {
			return api.Jid{}, api.ErrJid
		}
	}
	if at := strings.IndexByte(j.Domain, '@'); at >= 0 {
		j.Node, j.Domain = j.Domain[:at], j.Domain[at+1:]
		if j.Node == "" {
			return api.Jid{}, api.ErrJid
		}
	}
	if j = normOf(j); checkOf(j) != api.OK {
		return api.Jid{}, api.ErrJid
	}
	return j, api.OK
}

// eachText calls look with all texts of at most n of these pieces.
func eachText(pieces []string, n int, look func(s string)) {
	var grow func(s string, left int)
	grow = func(s string, left int) {
		look(s)
		if left == 0 {
			return
		}
		for _, p := range pieces {
			grow(s+p, left-1)
		}
	}
	grow("", n)
}

// eachJid calls look with addresses of all these parts, of which many may not be.
func eachJid(look func(j api.Jid)) {
	nodes := []string{"", "a", "A", "juliet", "Juliet", "a b", "a@b", "a/b", "@", "\u00e9", "\u00c9", "\u212a", "\t", "\x7f", "\xff", "a\\20b", strings.Repeat("n", 1023), strings.Repeat("n", 1024)}
	domains := []string{"", ".", "..", "x", "X", "x.", "X.", "x..", ".x", "x.y", "x..y", "Example.COM", "x_y", "x/y", "x@y", "-", "-.-", "9", "\u00e9", "x\x7f", "x\xff", strings.Repeat("d", 1023), strings.Repeat("d", 1023) + ".", strings.Repeat("d", 1024)}
	resources := []string{"", "r", "R", "Balcony", "/", "@", "a@b/c", " ", ".", "r.", "\u00c9", "\n", "\x7f", "\xc3", strings.Repeat("r", 1023), strings.Repeat("r", 1024)}
	for _, n := range nodes {
		for _, d := range domains {
			for _, r := range resources {
				look(api.Jid{Node: n, Domain: d, Resource: r})
			}
		}
	}
}

// P3.1: of every byte in each part, in front, within, behind and alone; bytes above 7f stand for no sign.
func TestCheckOfEveryByte(t *testing.T) {
	for a := range 256 {
		b := string([]byte{byte(a)})
		for _, s := range []string{b, b + "x", "x" + b + "y", "x" + b} {
			for _, j := range []api.Jid{{Node: s, Domain: "x"}, {Domain: s}, {Domain: "x", Resource: s}} {
				if got, want := Check(j), checkOf(j); got != want {
					t.Errorf("Check(%q): %d, not %d", j, got, want)
				}
			}
		}
	}
}

// P3.1: what a Node and a Resource may have of the bytes to 7f, listed.
func TestCheckOfBytesThatAreListed(t *testing.T) {
	const both = "!#$%()*+,-.0123456789;=?[\\]^_`abcdefghijklmnopqrstuvwxyz{|}~"
	const resourceAlone = " \"&'/:<>@ABCDEFGHIJKLMNOPQRSTUVWXYZ"
	for a := range 128 {
		b := string([]byte{byte(a)})
		inNode, inResource := strings.Contains(both, b), strings.Contains(both+resourceAlone, b)
		if got := Check(api.Jid{Node: "x" + b + "y", Domain: "x"}) == api.OK; got != inNode {
			t.Errorf("a Node with %q: %t", b, got)
		}
		if got := Check(api.Jid{Domain: "x", Resource: "x" + b + "y"}) == api.OK; got != inResource {
			t.Errorf("a Resource with %q: %t", b, got)
		}
	}
}

// P3.1: of every sign in each part: those that are plain may stand in a Node and a Resource, none above 7f in a Domain.
func TestCheckOfEverySign(t *testing.T) {
	for c := range api.MaxGlyph + 1 {
		if 0xd800 <= c && c <= 0xdfff {
			continue
		}
		s := string(rune(c))
		for _, j := range []api.Jid{{Node: s, Domain: "x"}, {Domain: s}, {Domain: "x", Resource: s}} {
			if got, want := Check(j), checkOf(j); got != want {
				t.Fatalf("Check(%q): %d, not %d", j, got, want)
			}
		}
	}
}

// P3.1: bytes, not signs, are counted, and each part on its own.
func TestCheckOfLengths(t *testing.T) {
	most, more := strings.Repeat("a", 1023), strings.Repeat("a", 1024)
	wide, wider := strings.Repeat("\u20ac", 341), strings.Repeat("\u20ac", 341)+"a"
	for _, c := range []struct {
		j    api.Jid
		want api.Errno
	}{
		{api.Jid{Node: most, Domain: most, Resource: most}, api.OK},
		{api.Jid{Node: more, Domain: "x"}, api.ErrJid}, {api.Jid{Domain: more}, api.ErrJid}, {api.Jid{Domain: "x", Resource: more}, api.ErrJid},
		{api.Jid{Node: wide, Domain: "x", Resource: wide}, api.OK}, {api.Jid{Node: wider, Domain: "x"}, api.ErrJid}, {api.Jid{Domain: "x", Resource: wider}, api.ErrJid},
		{api.Jid{Domain: strings.Repeat("a.", 511) + "a"}, api.OK}, {api.Jid{Domain: strings.Repeat("a.", 511) + "aa"}, api.ErrJid},
		{api.Jid{Domain: strings.Repeat("a", 70000)}, api.ErrJid},
	} {
		if got := Check(c.j); got != c.want {
			t.Errorf("Check of %d, %d, %d bytes: %d", len(c.j.Node), len(c.j.Domain), len(c.j.Resource), got)
		}
	}
}

// P3.1: points part a Domain's letters, one at a time, and none stands at an end.
func TestCheckOfDomains(t *testing.T) {
	for s, want := range map[string]api.Errno{
		"x": api.OK, "b": api.OK, "aim.b": api.OK, "a.b.c.d": api.OK, "127.0.0.1": api.OK, "-": api.OK, "-a-.-b-": api.OK, "0": api.OK, "xn--e1a": api.OK,
		"": api.ErrJid, ".": api.ErrJid, "..": api.ErrJid, ".x": api.ErrJid, "x.": api.ErrJid, "x..y": api.ErrJid, "x.y..": api.ErrJid, "..x": api.ErrJid,
		"X": api.ErrJid, "x.Y": api.ErrJid, "x_y": api.ErrJid, "x y": api.ErrJid, " x": api.ErrJid, "x/y": api.ErrJid, "x@y": api.ErrJid, "x:1": api.ErrJid, "\u00e9": api.ErrJid, "[::1]": api.ErrJid,
	} {
		for _, j := range []api.Jid{{Domain: s}, {Node: "n", Domain: s, Resource: "r"}} {
			if got := Check(j); got != want {
				t.Errorf("Check(%q): %d", j, got)
			}
		}
	}
	eachText([]string{".", "a", "-", "A", "9", "_"}, 6, func(s string) {
		if got, want := Check(api.Jid{Domain: s}), checkOf(api.Jid{Domain: s}); got != want {
			t.Fatalf("Check of the Domain %q: %d", s, got)
		}
	})
}

// P3.1, P3.2, P3.4: addresses of many parts, good and bad, go as the words say.
func TestCheckNormBareAndWithOfManyAddresses(t *testing.T) {
	eachJid(func(j api.Jid) {
		if got, want := Check(j), checkOf(j); got != want {
			t.Fatalf("Check(%q): %d, not %d", j, got, want)
		}
		if got, want := Norm(j), normOf(j); got != want {
			t.Fatalf("Norm(%q): %q, not %q", j, got, want)
		}
		if got, want := Bare(j), (api.Jid{Node: j.Node, Domain: j.Domain}); got != want {
			t.Fatalf("Bare(%q): %q", j, got)
		}
		for _, r := range []string{"", "s", "a b/c@d", "\x00", "\xff", "S"} {
			if got, want := With(j, r), (api.Jid{Node: j.Node, Domain: j.Domain, Resource: r}); got != want {
				t.Fatalf("With(%q, %q): %q", j, r, got)
			}
		}
	})
}

// P3.2: one point at the Domain's end goes, and no more; those of other parts stay, and so does the Resource's case.
func TestNorm(t *testing.T) {
	for _, c := range []struct{ j, want api.Jid }{
		{api.Jid{}, api.Jid{}},
		{api.Jid{Node: "AZ[@`{", Domain: "AZ.", Resource: "AZ."}, api.Jid{Node: "az[@`{", Domain: "az", Resource: "AZ."}},
		{api.Jid{Node: "N.", Domain: "X..", Resource: "R"}, api.Jid{Node: "n.", Domain: "x.", Resource: "R"}},
		{api.Jid{Domain: "."}, api.Jid{}}, {api.Jid{Domain: ".."}, api.Jid{Domain: "."}}, {api.Jid{Domain: ".X"}, api.Jid{Domain: ".x"}},
		{api.Jid{Node: "\u00c9\u212a\xff", Domain: "\u0130I"}, api.Jid{Node: "\u00c9\u212a\xff", Domain: "\u0130i"}},
	} {
		if got := Norm(c.j); got != c.want {
			t.Errorf("Norm(%q): %q", c.j, got)
		}
	}
}

// P3.3: the Resource is behind the first /, the Node ahead of the first @ of what is left.
func TestParse(t *testing.T) {
	for s, want := range map[string]api.Jid{
		"x": {Domain: "x"}, "X.": {Domain: "x"}, "a@x": {Node: "a", Domain: "x"}, "A@X./R": {Node: "a", Domain: "x", Resource: "R"},
		"x/r": {Domain: "x", Resource: "r"}, "x/a@b": {Domain: "x", Resource: "a@b"}, "a@x/b@c/d": {Node: "a", Domain: "x", Resource: "b@c/d"},
		"x//": {Domain: "x", Resource: "/"}, "x//r": {Domain: "x", Resource: "/r"}, "x/@": {Domain: "x", Resource: "@"}, "x/ ": {Domain: "x", Resource: " "},
		"x/R.": {Domain: "x", Resource: "R."}, `d\27art\40x@aim.b`: {Node: `d\27art\40x`, Domain: "aim.b"}, "\u00c9@x/\u00c9": {Node: "\u00c9", Domain: "x", Resource: "\u00c9"}, "a.@x": {Node: "a.", Domain: "x"},
	} {
		if got, err := Parse(s); got != want || err != api.OK {
			t.Errorf("Parse(%q): %q, %d", s, got, err)
		}
	}
}

// P3.3: empty parts, and what Check refuses, are refused, with nothing told of them.
func TestParseRefuses(t *testing.T) {
	for _, s := range []string{
		"", "/", "@", "@/", "/r", "@x", "a@", "a@/r", "@x/r", "x/", "a@x/", "/@", "a@.", ".", "x..", "a@x../r", ".x", "x..y", "a@b@c", "a@@x", "@a@x",
		"a b@x", "a@x y", " x", "x ", "a:b@x", "a<@x", "a&b@x", "a'b@x", "a\"b@x", "x_y", "x\\y", "\u00e9", "a@\u00e9", "x/a\nb", "x/\x7f", "x/\x00", "x/\xff", "\xff@x", "a\tb@x", "x/\ufffe",
		strings.Repeat("a", 1024), strings.Repeat("a", 1024) + "@x", "x/" + strings.Repeat("a", 1024), strings.Repeat("a", 1023) + "..",
	} {
		if got, err := Parse(s); got != (api.Jid{}) || err != api.ErrJid {
			t.Errorf("Parse(%q): %q, %d", s, got, err)
		}
	}
}

// P3.3: a point at the end is off before bytes are counted.
func TestParseOfLengths(t *testing.T) {
	most := strings.Repeat("A", 1023)
	low := strings.ToLower(most)
	for s, want := range map[string]api.Jid{most + "@" + most + "./" + most: {Node: low, Domain: low, Resource: most}, most + ".": {Domain: low}} {
		if got, err := Parse(s); got != want || err != api.OK {
			t.Errorf("Parse of %d bytes: %d", len(s), err)
		}
	}
	for _, s := range []string{strings.Repeat("a", 70000), strings.Repeat("/", 70000), strings.Repeat("@", 70000), strings.Repeat(".", 70000), "x/" + strings.Repeat("\u00e9", 70000)} {
		if got, err := Parse(s); got != (api.Jid{}) || err != api.ErrJid {
			t.Errorf("Parse of %d bytes: %d", len(s), err)
		}
	}
}

// P3.3, P3.5: all short texts of what matters here go as the words say; what was parsed comes back.
func TestParseOfAllShortTexts(t *testing.T) {
	for _, pieces := range [][]string{{"a", "B", "@", "/", "."}, {"x", "@", "/", " ", "\u00e9", "\xc3", "\t"}} {
		eachText(pieces, 7, func(s string) {
			want, wantErr := parseOf(s)
			j, err := Parse(s)
			if j != want || err != wantErr {
				t.Fatalf("Parse(%q): %q, %d, not %q, %d", s, j, err, want, wantErr)
			}
			if err != api.OK {
				return
			}
			if again, err := Parse(Put(j)); again != j || err != api.OK || Check(j) != api.OK || Norm(j) != j {
				t.Fatalf("%q, parsed from %q, comes back as %q, %d", j, s, again, err)
			}
		})
	}
}

// P3.3: Put lays what is there, and asks not whether it may be.
func TestPut(t *testing.T) {
	for want, j := range map[string]api.Jid{
		"": {}, "x": {Domain: "x"}, "a@x": {Node: "a", Domain: "x"}, "x/r": {Domain: "x", Resource: "r"}, "a@x/r": {Node: "a", Domain: "x", Resource: "r"},
		"a@": {Node: "a"}, "/r": {Resource: "r"}, "a@/r": {Node: "a", Resource: "r"}, "A@X./R": {Node: "A", Domain: "X.", Resource: "R"},
		"x//@": {Domain: "x", Resource: "/@"}, "\xff@ / ": {Node: "\xff", Domain: " ", Resource: " "}, "@@@//": {Node: "@", Domain: "@", Resource: "/"},
	} {
		if got := Put(j); got != want {
			t.Errorf("Put(%q): %q", j, got)
		}
	}
}

// P3.4: neither asks whether the address may be, nor changes another part.
func TestBareAndWith(t *testing.T) {
	j := api.Jid{Node: "A", Domain: "X.", Resource: "R"}
	if got := Bare(j); got != (api.Jid{Node: "A", Domain: "X."}) {
		t.Errorf("Bare: %q", got)
	}
	if got := With(j, "s/\x00"); got != (api.Jid{Node: "A", Domain: "X.", Resource: "s/\x00"}) {
		t.Errorf("With: %q", got)
	}
	if j != (api.Jid{Node: "A", Domain: "X.", Resource: "R"}) || Bare(Bare(j)) != With(j, "") || With(Bare(j), "R") != j || Bare(api.Jid{}) != (api.Jid{}) {
		t.Errorf("%q is another one now, or does not come back", j)
	}
}

// P3.5: what may be is the same again after Put and Parse; what may not be never comes of a Parse.
func TestThereAndBack(t *testing.T) {
	good := 0
	eachJid(func(j api.Jid) {
		back, err := Parse(Put(j))
		if Check(j) != api.OK {
			if back == j && err == api.OK {
				t.Fatalf("%q may not be, and was parsed", j)
			}
			return
		}
		good++
		if back != j || err != api.OK {
			t.Fatalf("%q comes back as %q, %d", j, back, err)
		}
	})
	if good < 100 {
		t.Errorf("%d addresses alone may be", good)
	}
}

// P3.6: the case of Node and Domain has no part, that of the Resource has.
func TestWhateverCase(t *testing.T) {
	want := api.Jid{Node: "juliet", Domain: "example.com", Resource: "Balcony"}
	for _, s := range []string{"juliet@example.com/Balcony", "JULIET@EXAMPLE.COM/Balcony", "jUlIeT@eXaMpLe.CoM./Balcony"} {
		if got, err := Parse(s); got != want || err != api.OK {
			t.Errorf("Parse(%q): %q, %d", s, got, err)
		}
	}
	for _, s := range []string{"juliet@example.com/balcony", "juliet@example.com/BALCONY", "juliet@example.com/Balcony."} {
		if got, err := Parse(s); got == want || Bare(got) != Bare(want) || err != api.OK {
			t.Errorf("Parse(%q): %q, %d", s, got, err)
		}
	}
	eachJid(func(j api.Jid) {
		upper := api.Jid{Node: upperOf(j.Node), Domain: upperOf(j.Domain), Resource: j.Resource}
		if Norm(upper) != Norm(j) || Norm(j).Resource != j.Resource || Norm(With(j, "q")) == Norm(With(j, "Q")) {
			t.Fatalf("%q and %q part", j, upper)
		}
		if one, err := Parse(Put(j)); checkOf(j) == api.OK {
			if other, err2 := Parse(Put(upper)); one != other || err != err2 {
				t.Fatalf("%q is parsed as %q, in great letters as %q", j, one, other)
			}
		}
	})
}

func upperOf(s string) string {
	b := []byte(s)
	for i, c := range b {
		if 'a' <= c && c <= 'z' {
			b[i] = c - 0x20
		}
	}
	return string(b)
}

// The chapter's examples.
func TestExamples(t *testing.T) {
	if j, err := Parse("Juliet@Example.COM./Balcony"); j != (api.Jid{Node: "juliet", Domain: "example.com", Resource: "Balcony"}) || err != api.OK {
		t.Errorf("Parse(Juliet@Example.COM./Balcony): %q, %d", j, err)
	}
	if j, err := Parse("@x"); j != (api.Jid{}) || err != api.ErrJid {
		t.Errorf("Parse(@x): %q, %d", j, err)
	}
}
