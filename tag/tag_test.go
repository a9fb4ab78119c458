package tag

import (
	"encoding/xml"
	"regexp"
	"slices"
	"strings"
	"testing"
	"unicode/utf8"

	"wharf/api"
	"wharf/glyph"
)

// The words of P5.1, as a pattern.
var nameForm = regexp.MustCompile(`\A[a-zA-Z_][a-zA-Z0-9_.-]{0,63}\z`)

// The words of P5.3, as pairs.
var quotes = []string{
	"&", "&amp;", "<", "&lt;", ">", "&gt;", "'", "&apos;", "\"", "&quot;", "\x09", "&#x9;", "\x0a", "&#xA;", "\x0d", "&#xD;",
}

func quoteOf1(s string) string {
	return strings.NewReplacer(quotes...).Replace(s)
}

// putOf says P5.2 by its words.
func putOf(e api.Elem, space string) string {
	s := "<" + e.Name
	if e.Space != space {
		s += " xmlns='" + quoteOf1(e.Space) + "'"
	}
	for _, a := range e.Attrs {
		s += " " + a.Name + "='" + quoteOf1(a.Value) + "'"
	}
	if e.Text == "" && len(e.Kids) == 0 {
		return s + "/>"
	}
	s += ">" + quoteOf1(e.Text)
	for _, k := range e.Kids {
		s += putOf(k, e.Space)
	}
	return s + "</" + e.Name + ">"
}

func depthOf(e api.Elem) int {
	n := 0
	for _, k := range e.Kids {
		n = max(n, depthOf(k))
	}
	return n + 1
}

// checkOf says P5.1 by its words, kid by kid.
func checkOf(e api.Elem) api.Errno {
	good := nameForm.MatchString(e.Name) && len(e.Space) >= 1 && len(e.Space) <= 256 && len(e.Attrs) <= 16
	good = good && glyph.Check(e.Space) == api.OK && glyph.Check(e.Text) == api.OK
	names := map[string]bool{}
	for _, a := range e.Attrs {
		good = good && (nameForm.MatchString(a.Name) || a.Name == "xml:lang") && a.Name != "xmlns" && !names[a.Name]
		good = good && glyph.Check(a.Value) == api.OK
		names[a.Name] = true
	}
	for _, k := range e.Kids {
		good = good && checkOf(k) == api.OK
	}
	if !good || depthOf(e) > 16 || len(putOf(e, "")) > 16384 {
		return api.ErrTag
	}
	return api.OK
}

// sameOf says Same of P5.4 by its words.
func sameOf(a, b api.Elem) bool {
	if a.Space != b.Space || a.Name != b.Name || a.Text != b.Text || len(a.Attrs) != len(b.Attrs) || len(a.Kids) != len(b.Kids) {
		return false
	}
	for i := range a.Attrs {
		if a.Attrs[i].Name != b.Attrs[i].Name || a.Attrs[i].Value != b.Attrs[i].Value {
			return false
		}
	}
	for i := range a.Kids {
		if !sameOf(a.Kids[i], b.Kids[i]) {
			return false
		}
	}
	return true
}

// eachText calls look with all texts of at most n of these pieces.
func eachText(pieces []string, n int, look func(s string)) {
	var grow func(s string, left int)
	grow = func(s string, left int) {
		look(s)
		if left == 0 {
			return
		}
		for _, p := range pieces {
			grow(s+p, left-1)
		}
	}
	grow("", n)
}

// eachElem calls look with all elements, at most this deep, of few Spaces, Names, Attrs and Texts, good ones and bad ones.
func eachElem(depth int, look func(e api.Elem)) {
	attrs := [][]api.Attr{nil, {{Name: "c", Value: ""}}, {{Name: "c", Value: "'"}, {Name: "d", Value: "a"}}, {{Name: "d", Value: "a"}, {Name: "c", Value: "'"}}}
	texts := []string{"", "<", "a"}
	if depth > 1 {
		attrs, texts = attrs[:2], texts[:2]
	}
	kids := [][]api.Elem{nil}
	if depth > 1 {
		var all []api.Elem
		eachElem(depth-1, func(e api.Elem) { all = append(all, e) })
		for i, k := range all {
			kids = append(kids, []api.Elem{k}, []api.Elem{k, all[(i*7+1)%len(all)]})
		}
	}
	for _, space := range []string{"a", "b'"} {
		for _, name := range []string{"a", "b"} {
			for _, at := range attrs {
				for _, text := range texts {
					for _, k := range kids {
						look(api.Elem{Space: space, Name: name, Attrs: at, Text: text, Kids: k})
					}
				}
			}
		}
	}
}

// chain lays n elements within one another.
func chain(n int) api.Elem {
	e := api.Elem{Space: "a", Name: "k"}
	for range n - 1 {
		e = api.Elem{Space: "a", Name: "k", Kids: []api.Elem{e}}
	}
	return e
}

func named(name string) api.Elem {
	return api.Elem{Space: "a", Name: name}
}

// with is an element that has these attributes, all with the value v.
func with(names ...string) api.Elem {
	e := named("e")
	for _, n := range names {
		e.Attrs = append(e.Attrs, api.Attr{Name: n, Value: "v"})
	}
	return e
}

func lookAtCheck(t *testing.T, e api.Elem, want api.Errno) {
	t.Helper()
	if got := Check(e); got != want {
		t.Fatalf("Check(%.300q): %d, not %d", putOf(e, ""), got, want)
	}
	if got := Check(api.Elem{Space: "o", Name: "o", Kids: []api.Elem{named("first"), e}}); depthOf(e) < 16 && len(putOf(e, "")) < 16000 && got != want {
		t.Fatalf("Check of one with the kid %.300q: %d, not %d", putOf(e, ""), got, want)
	}
}

func lookAtPut(t *testing.T, e api.Elem, space string) {
	t.Helper()
	if got, want := Put(e, space), putOf(e, space); got != want {
		t.Fatalf("Put(%v, %q): %q, not %q", e, space, got, want)
	}
}

// P5.1: every byte at each place of a name, of elements and of attributes.
func TestNamesByBytes(t *testing.T) {
	for a := range 256 {
		b := string([]byte{byte(a)})
		for _, s := range []string{b, "a" + b, b + "a", "a" + b + "a", "-" + b, "_" + b, b + b} {
			want := api.ErrTag
			if nameForm.MatchString(s) {
				want = api.OK
			}
			lookAtCheck(t, named(s), want)
			lookAtCheck(t, with(s), want)
		}
	}
}

// P5.1: names that are named, and their bounds.
func TestNames(t *testing.T) {
	long := strings.Repeat("n", 64)
	for _, s := range []string{"a", "Z", "_", "a-", "a.", "_-.9", "xmlns1", "XMLNS", "xml", "message", long, "_" + long[:63]} {
		lookAtCheck(t, named(s), api.OK)
		lookAtCheck(t, with(s), api.OK)
	}
	for _, s := range []string{"", "1", "-", ".", ":", "a:b", "xml:", ":lang", "xml:lan", "xml:language", "XML:LANG", "xml:lang:a", "a b", "a'", "\u00e9", "a\u00e9", "a\n", long + "n", strings.Repeat(long, 9)} {
		lookAtCheck(t, named(s), api.ErrTag)
		lookAtCheck(t, with(s), api.ErrTag)
	}
	lookAtCheck(t, named("xml:lang"), api.ErrTag)
	lookAtCheck(t, with("xml:lang"), api.OK)
	lookAtCheck(t, named("xmlns"), api.OK)
	lookAtCheck(t, with("xmlns"), api.ErrTag)
	lookAtCheck(t, with("a", "xmlns"), api.ErrTag)
}

// P5.1: how many attributes, and no two alike.
func TestAttrs(t *testing.T) {
	lookAtCheck(t, with("a", "b", "c"), api.OK)
	lookAtCheck(t, with("a", "A", "a1"), api.OK)
	lookAtCheck(t, with("a", "a"), api.ErrTag)
	lookAtCheck(t, with("a", "b", "a"), api.ErrTag)
	lookAtCheck(t, with("b", "a", "a"), api.ErrTag)
	lookAtCheck(t, with("xml:lang", "b", "xml:lang"), api.ErrTag)
	e := with("a", "b", "a")
	e.Attrs[2].Value = "another"
	lookAtCheck(t, e, api.ErrTag)
	var names []string
	for i := range 18 {
		want := api.OK
		if i > 16 {
			want = api.ErrTag
		}
		lookAtCheck(t, with(names...), want)
		names = append(names, "n"+string(rune('a'+i)))
	}
}

// P5.1: texts, in all places; Spaces of all lengths about the bounds.
func TestTexts(t *testing.T) {
	for _, s := range []string{"", "a", "\t\n\r ", "<&>'\"", "\u20ac\U0010ffff\ufffd", "\x00", "\x1f", "\xff", "a\xc3", "\ufffe", "\uffff", "\xed\xa0\x80"} {
		want := glyph.Check(s)
		if want != api.OK {
			want = api.ErrTag
		}
		lookAtCheck(t, api.Elem{Space: "a", Name: "e", Text: s}, want)
		lookAtCheck(t, api.Elem{Space: "a" + s, Name: "e"}, want)
		lookAtCheck(t, api.Elem{Space: "a", Name: "e", Attrs: []api.Attr{{Name: "v", Value: "v"}, {Name: "w", Value: s}}}, want)
	}
	for n := range 300 {
		want := api.OK
		if n < 1 || n > 256 {
			want = api.ErrTag
		}
		lookAtCheck(t, api.Elem{Space: strings.Repeat("'", n), Name: "e"}, want)
	}
	lookAtCheck(t, api.Elem{Space: strings.Repeat("\u20ac", 85), Name: "e"}, api.OK)
	lookAtCheck(t, api.Elem{Space: strings.Repeat("\u20ac", 86), Name: "e"}, api.ErrTag) // bytes count, not signs
	lookAtCheck(t, api.Elem{}, api.ErrTag)
}

// P5.1: elements within one another.
func TestDepth(t *testing.T) {
	for n := 1; n < 20; n++ {
		want := api.OK
		if n > 16 {
			want = api.ErrTag
		}
		lookAtCheck(t, chain(n), want)
		e := api.Elem{Space: "a", Name: "k", Kids: []api.Elem{chain(3), chain(n), chain(2)}}
		if n == 16 {
			want = api.ErrTag
		}
		lookAtCheck(t, e, want)
	}
	bad := chain(15)
	at := &bad
	for len(at.Kids) > 0 {
		at = &at.Kids[0]
	}
	at.Kids = []api.Elem{named("x"), named("1")}
	lookAtCheck(t, bad, api.ErrTag)
	at.Kids[1].Name = "y"
	lookAtCheck(t, bad, api.OK)
}

// fill lengthens the text at s till e's own one has that many bytes.
func fill(e *api.Elem, s *string, size int) {
	*s += strings.Repeat("a", size-len(putOf(*e, "")))
}

// P5.1: at most MaxStanza bytes, of which each part of e's text is some.
func TestSize(t *testing.T) {
	laid := func() api.Elem {
		e := with("v", "w")
		e.Attrs[1].Value = "''"
		e.Text = "a<&>\t\n"
		e.Kids = []api.Elem{{Space: "a", Name: "k", Text: "\"\r"}, {Space: "z'", Name: "k", Kids: []api.Elem{{Space: "z'", Name: "l"}, {Space: "a", Name: "m"}}}}
		return e
	}
	places := []func(e *api.Elem) *string{
		func(e *api.Elem) *string { return &e.Text },
		func(e *api.Elem) *string { return &e.Attrs[0].Value },
		func(e *api.Elem) *string { return &e.Kids[0].Text },
		func(e *api.Elem) *string { return &e.Kids[1].Kids[1].Text },
	}
	for _, place := range places {
		for size, want := range map[int]api.Errno{16383: api.OK, 16384: api.OK, 16385: api.ErrTag, 16386: api.ErrTag, 40000: api.ErrTag} {
			e := laid()
			*place(&e) += "a" // an empty element's text is longer by more than one byte as soon as there is one in it
			fill(&e, place(&e), size)
			lookAtCheck(t, e, want)
		}
	}
	lookAtCheck(t, api.Elem{Space: "a", Name: "e", Text: strings.Repeat("\u20ac", 16384/3)}, api.ErrTag)
	lookAtCheck(t, api.Elem{Space: "a", Name: "e", Text: strings.Repeat("&", 16000/5)}, api.OK)
	lookAtCheck(t, api.Elem{Space: "a", Name: "e", Text: strings.Repeat("&", 16384/5)}, api.ErrTag)
}

// P5.1: a kid alone is never greater than the whole, whatever its Space: so the whole's bytes say enough.
func TestSizeOfKids(t *testing.T) {
	for _, space := range []string{"a", "aa", strings.Repeat("'", 256)} {
		for _, inner := range []string{"a", "aa", strings.Repeat("'", 256)} {
			for size := 16380; size < 16390; size++ {
				e := api.Elem{Space: space, Name: "e", Kids: []api.Elem{{Space: inner, Name: "k", Text: "a"}}}
				fill(&e, &e.Kids[0].Text, size)
				lookAtCheck(t, e, checkOf(e))
			}
		}
	}
}

// P5.1: what is greater by far than may be is refused, before all of it is gone through.
func TestFarTooGreat(t *testing.T) {
	e := named("k")
	for range 15 {
		e = api.Elem{Space: "a", Name: "k", Kids: slices.Repeat([]api.Elem{e}, 64)}
	}
	if Check(e) != api.ErrTag {
		t.Fatal("64 kids at each of 15 depths pass")
	}
	deep := chain(1 << 16)
	if Check(deep) != api.ErrTag || !Same(deep, deep) || Same(deep, chain(1<<16-1)) || Attr(deep, "a") != "" {
		t.Fatal("deep")
	}
	if s := Put(deep, "a"); s != strings.Repeat("<k>", 1<<16-1)+"<k/>"+strings.Repeat("</k>", 1<<16-1) {
		t.Fatal("Put of a deep one")
	}
	if k, ok := Kid(deep, "a", "k"); !ok || !Same(k, deep.Kids[0]) {
		t.Fatal("Kid of a deep one")
	}
	cyclic := named("k")
	cyclic.Kids = []api.Elem{{Space: "a", Name: "k"}}
	cyclic.Kids[0].Kids = cyclic.Kids
	if Check(cyclic) != api.ErrTag {
		t.Fatal("one that lies in itself passes")
	}
}

// P5.1, P5.2: small elements of all kinds, good ones and bad ones.
func TestSmall(t *testing.T) {
	eachElem(2, func(e api.Elem) {
		if got := Check(e); got != checkOf(e) {
			t.Fatalf("Check(%v): %d", e, got)
		}
		for _, space := range []string{"", "a", "b'", "c"} {
			lookAtPut(t, e, space)
		}
	})
	names := []string{"", "a", "1", "xmlns", "xml:lang"}
	for _, name := range names {
		for _, space := range []string{"", "a", "\x01"} {
			for _, first := range names {
				for _, second := range names {
					for _, value := range []string{"", "\x02"} {
						for _, text := range []string{"", "a", "\xff"} {
							e := api.Elem{Space: space, Name: name, Text: text, Attrs: []api.Attr{{Name: first, Value: "v"}, {Name: second, Value: value}}}
							lookAtCheck(t, e, checkOf(e))
							lookAtPut(t, e, "a")
						}
					}
				}
			}
		}
	}
}

// P5.2: each part of the text by itself.
func TestPut(t *testing.T) {
	for _, c := range []struct {
		e     api.Elem
		space string
		want  string
	}{
		{named("e"), "", "<e xmlns='a'/>"},
		{named("e"), "a", "<e/>"},
		{named("e"), "A", "<e xmlns='a'/>"},
		{api.Elem{Name: "e"}, "", "<e/>"},
		{api.Elem{Name: "e"}, "a", "<e xmlns=''/>"},
		{api.Elem{Space: "a&'", Name: "e"}, "a&amp;&apos;", "<e xmlns='a&amp;&apos;'/>"},
		{api.Elem{Space: "a", Name: "e", Text: "x"}, "a", "<e>x</e>"},
		{api.Elem{Space: "a", Name: "e", Text: " "}, "a", "<e> </e>"},
		{api.Elem{Space: "a", Name: "e", Attrs: []api.Attr{}, Kids: []api.Elem{}}, "a", "<e/>"},
		{api.Elem{Space: "a", Name: "e", Attrs: []api.Attr{{Name: "z", Value: ""}, {Name: "b", Value: "\n"}}}, "a", "<e z='' b='&#xA;'/>"},
		{api.Elem{Space: "a", Name: "e", Text: "x", Kids: []api.Elem{named("k"), named("l")}}, "a", "<e>x<k/><l/></e>"},
		{api.Elem{Space: "a", Name: "e", Kids: []api.Elem{{Space: "b", Name: "k", Kids: []api.Elem{{Space: "b", Name: "m"}, named("l")}}, named("n")}}, "b", "<e xmlns='a'><k xmlns='b'><m/><l xmlns='a'/></k><n/></e>"},
	} {
		if got := Put(c.e, c.space); got != c.want {
			t.Fatalf("Put(%v, %q): %q, not %q", c.e, c.space, got, c.want)
		}
	}
}

// P5.3: every byte, alone and among others; all short texts of what matters.
func TestQuote(t *testing.T) {
	for a := range 256 {
		b := string([]byte{byte(a)})
		for _, s := range []string{b, b + b, "a" + b + "z", b + "amp;", "&" + b} {
			if got, want := Quote(s), quoteOf1(s); got != want {
				t.Fatalf("Quote(%q): %q, not %q", s, got, want)
			}
		}
	}
	eachText([]string{"&", "<", ">", "'", "\"", "\t", "\n", "\r", "a", ";", "\u20ac", "\x80"}, 4, func(s string) {
		if got, want := Quote(s), quoteOf1(s); got != want {
			t.Fatalf("Quote(%q): %q, not %q", s, got, want)
		}
	})
}

// P5.4: the first attribute of that name.
func TestAttr(t *testing.T) {
	e := api.Elem{Attrs: []api.Attr{{Name: "a", Value: ""}, {Name: "b", Value: "1"}, {Name: "a", Value: "2"}, {Name: "b", Value: "3"}, {Name: "", Value: "4"}, {Name: "xml:lang", Value: "5"}}}
	for name, want := range map[string]string{"a": "", "b": "1", "": "4", "xml:lang": "5", "lang": "", "B": "", "c": "", "xmlns": ""} {
		if got := Attr(e, name); got != want {
			t.Fatalf("Attr of %q: %q, not %q", name, got, want)
		}
	}
	if Attr(api.Elem{Space: "a", Name: "b"}, "") != "" {
		t.Fatal("an attribute of none")
	}
}

// P5.4: the first kid of that Space and Name, and only of the Kids themselves.
func TestKid(t *testing.T) {
	e := api.Elem{Space: "s", Name: "n", Kids: []api.Elem{
		{Space: "a", Name: "x", Text: "1", Kids: []api.Elem{{Space: "a", Name: "deep"}}},
		{Space: "a", Name: "k", Text: "2", Attrs: []api.Attr{{Name: "v", Value: "w"}}},
		{Space: "b", Name: "k", Text: "3"},
		{Space: "a", Name: "k", Text: "4"},
		{Space: "", Name: "", Text: "5"},
	}}
	for at, want := range map[[2]string]int{{"a", "x"}: 0, {"a", "k"}: 1, {"b", "k"}: 2, {"", ""}: 4} {
		if got, ok := Kid(e, at[0], at[1]); !ok || !sameOf(got, e.Kids[want]) {
			t.Fatalf("Kid of %q: %v, %v", at, got, ok)
		}
	}
	for _, at := range [][2]string{{"a", "deep"}, {"s", "n"}, {"b", "x"}, {"", "k"}, {"a", ""}, {"A", "k"}, {"a", "K"}} {
		if got, ok := Kid(e, at[0], at[1]); ok || !sameOf(got, api.Elem{}) {
			t.Fatalf("Kid of %q: %v, %v", at, got, ok)
		}
	}
}

// P5.4, rule 3: what is answered shares nothing with what was handed in, which is not changed.
func TestNothingIsShared(t *testing.T) {
	lay := func() api.Elem {
		k := api.Elem{Space: "a", Name: "k", Attrs: []api.Attr{{Name: "v", Value: "w"}}, Kids: []api.Elem{{Space: "a", Name: "m", Attrs: []api.Attr{{Name: "x", Value: "y"}}}}}
		return api.Elem{Space: "a", Name: "e", Attrs: []api.Attr{{Name: "v", Value: "w"}}, Kids: []api.Elem{k}}
	}
	e := lay()
	Check(e)
	Put(e, "")
	Same(e, e)
	k, _ := Kid(e, "a", "k")
	again, _ := Kid(e, "a", "k")
	k.Attrs[0].Value = "changed"
	k.Kids[0].Name = "changed"
	k.Kids[0].Attrs[0].Value = "changed"
	_ = append(k.Kids[:len(k.Kids):cap(k.Kids)], named("spare"))
	if !sameOf(e, lay()) || !sameOf(again, lay().Kids[0]) {
		t.Fatal("a change of an answer is seen elsewhere")
	}
	list := []string{"a", "1", "b", "2"}
	n := New("s", "n", list...)
	list[0], list[3] = "changed", "changed"
	if !sameOf(n, api.Elem{Space: "s", Name: "n", Attrs: []api.Attr{{Name: "a", Value: "1"}, {Name: "b", Value: "2"}}}) {
		t.Fatal("a change of a list that was handed in is seen in an answer")
	}
}

// P5.4: New, two by two, of all short lists of what matters.
func TestNew(t *testing.T) {
	var grow func(list []string)
	grow = func(list []string) {
		want := api.Elem{Space: "s", Name: "n"}
		for at := 0; at+2 <= len(list); at += 2 {
			if list[at+1] != "" {
				want.Attrs = append(want.Attrs, api.Attr{Name: list[at], Value: list[at+1]})
			}
		}
		if got := New("s", "n", list...); !sameOf(got, want) {
			t.Fatalf("New of %q: %v", list, got)
		}
		if len(list) == 5 {
			return
		}
		for _, p := range []string{"", "a", "xmlns"} {
			grow(append(slices.Clone(list), p))
		}
	}
	grow(nil)
	if !sameOf(New("", ""), api.Elem{}) || !sameOf(New("\xff", "1", "", "v"), api.Elem{Space: "\xff", Name: "1", Attrs: []api.Attr{{Value: "v"}}}) {
		t.Fatal("New asks whether an element may be")
	}
}

// P5.4: Same, of all pairs of small elements, and of single changes to one.
func TestSame(t *testing.T) {
	var all []api.Elem
	eachElem(1, func(e api.Elem) { all = append(all, e) })
	for i := range 40 {
		all = append(all, api.Elem{Space: "a", Name: "a", Kids: []api.Elem{all[i], all[(i+1)%3]}}, api.Elem{Space: "a", Name: "a", Kids: []api.Elem{all[i%3]}})
	}
	for _, a := range all {
		for _, b := range all {
			if Same(a, b) != sameOf(a, b) {
				t.Fatalf("Same(%v, %v): %v", a, b, Same(a, b))
			}
		}
	}
	e := api.Elem{Space: "a", Name: "e", Attrs: []api.Attr{}, Kids: []api.Elem{}}
	if !Same(e, named("e")) || !Same(named("e"), e) {
		t.Fatal("nil and an empty list are not the same")
	}
	deep := chain(5)
	deep.Kids[0].Kids[0].Kids[0].Kids[0].Text = "x"
	if Same(deep, chain(5)) || Same(chain(5), deep) || !Same(deep, deep) {
		t.Fatal("Same does not look at the deepest kids")
	}
}

// P5.5: unlike elements that may be have unlike texts, within each space that none of them has as its own.
func TestUnlike(t *testing.T) {
	texts := map[string]api.Elem{}
	eachElem(2, func(e api.Elem) {
		if Check(e) != api.OK {
			t.Fatalf("%v may not be", e)
		}
		s := Put(e, "c")
		if had, there := texts[s]; there && !sameOf(had, e) {
			t.Fatalf("%v and %v have the text %q", had, e, s)
		}
		texts[s] = e
	})
}

// P5.5: no text has the bytes 9, A and D, nor < and & but of its marks; and a reader of such texts reads each element.
func TestThereAndBack(t *testing.T) {
	entity := regexp.MustCompile(`&(amp|lt|gt|apos|quot|#x9|#xA|#xD);`)
	look := func(e api.Elem) {
		s := Put(e, "")
		if strings.ContainsAny(s, "\t\n\r") || strings.Count(s, "<") != marksOf(e) || strings.Contains(entity.ReplaceAllString(s, ""), "&") {
			t.Fatalf("Put(%v, \"\"): %q", e, s)
		}
		if Check(e) == api.OK {
			lookAtReading(t, e, s)
		}
	}
	eachElem(2, look)
	eachText([]string{"&", "<", ">", "'", "\"", "\t", "\n", "\r", "a", "\u20ac", "]]"}, 3, func(s string) {
		look(api.Elem{Space: "a" + s, Name: "e", Text: s, Attrs: []api.Attr{{Name: "xml:lang", Value: s}, {Name: "b", Value: s + "b"}}, Kids: []api.Elem{{Space: s + "k", Name: "k", Text: "<" + s}}})
	})
	for c := range rune(0x10000) {
		if utf8.ValidRune(c) {
			look(api.Elem{Space: "a", Name: "e", Text: string(c)})
		}
	}
}

// marksOf counts the marks of e's text: one for an empty element, else two.
func marksOf(e api.Elem) int {
	n := 2
	if e.Text == "" && len(e.Kids) == 0 {
		n = 1
	}
	for _, k := range e.Kids {
		n += marksOf(k)
	}
	return n
}

func lookAtReading(t *testing.T, e api.Elem, s string) {
	t.Helper()
	d := xml.NewDecoder(strings.NewReader(s))
	got, ok := read(d)
	if _, err := d.Token(); !ok || err == nil || !sameOf(got, e) {
		t.Fatalf("%q is read as %v, not %v", s, got, e)
	}
}

// read reads one element by the library's own reader.
func read(d *xml.Decoder) (api.Elem, bool) {
	first, err := d.Token()
	start, ok := first.(xml.StartElement)
	if err != nil || !ok {
		return api.Elem{}, false
	}
	return readIn(d, start)
}

func readIn(d *xml.Decoder, start xml.StartElement) (api.Elem, bool) {
	e := api.Elem{Space: start.Name.Space, Name: start.Name.Local}
	for _, a := range start.Attr {
		name := a.Name.Local
		if a.Name.Space != "" {
			name = "xml:" + name
		}
		if name != "xmlns" {
			e.Attrs = append(e.Attrs, api.Attr{Name: name, Value: a.Value})
		}
	}
	for {
		x, err := d.Token()
		if err != nil {
			return e, false
		}
		switch y := x.(type) {
		case xml.CharData:
			e.Text += string(y)
		case xml.EndElement:
			return e, true
		case xml.StartElement:
			k, ok := readIn(d, y)
			if !ok {
				return e, false
			}
			e.Kids = append(e.Kids, k)
		}
	}
}

// The chapter's example.
func TestExamples(t *testing.T) {
	if s := Put(New("a", "b", "c", "d'"), ""); s != "<b xmlns='a' c='d&apos;'/>" {
		t.Fatal(s)
	}
}
