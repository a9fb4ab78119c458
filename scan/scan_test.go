package scan

import (
	"math/rand"
	"slices"
	"strconv"
	"strings"
	"testing"

	"wharf/api"
	"wharf/tag"
)

const head = "<a xmlns='z'>"

// opened is what comes of head.
var opened = api.Event{Kind: api.EvOpen, Elem: api.Elem{Space: "z", Name: "a"}}

var closed = api.Event{Kind: api.EvClose}

func stanza(e api.Elem) api.Event {
	return api.Event{Kind: api.EvStanza, Elem: e}
}

// elem is one of head's namespace; its attributes go two by two, empty ones too.
func elem(name, text string, kids []api.Elem, attrs ...string) api.Elem {
	e := api.Elem{Space: "z", Name: name, Text: text, Kids: kids}
	for i := 0; i < len(attrs); i += 2 {
		e.Attrs = append(e.Attrs, api.Attr{Name: attrs[i], Value: attrs[i+1]})
	}
	return e
}

func sameEvents(a, b []api.Event) bool {
	return slices.EqualFunc(a, b, func(x, y api.Event) bool {
		return x.Kind == y.Kind && x.Err == y.Err && tag.Same(x.Elem, y.Elem)
	})
}

// short makes long texts fit to be told.
func short(s string) string {
	if len(s) > 300 {
		return strconv.Quote(s[:150]) + ".." + strconv.Quote(s[len(s)-150:]) + " (" + strconv.Itoa(len(s)) + " bytes)"
	}
	return strconv.Quote(s)
}

// inPieces feeds text in pieces that end at these places.
func inPieces(text string, cuts ...int) (*Scanner, []api.Event) {
	s := New()
	var all []api.Event
	at := 0
	for _, cut := range append(slices.Clone(cuts), len(text)) {
		all = append(all, s.Feed(text[at:cut])...)
		at = cut
	}
	return s, all
}

func byteByByte(text string) (*Scanner, []api.Event) {
	var cuts []int
	for i := range len(text) {
		cuts = append(cuts, i)
	}
	return inPieces(text, cuts...)
}

// errOf answers the Err of what is wrong among the events.
func errOf(events []api.Event) api.Errno {
	if len(events) == 0 {
		return api.OK
	}
	return events[len(events)-1].Err
}

// lookAt feeds text whole, byte by byte, and in two and three pieces, and asks for these events and this depth.
func lookAt(t *testing.T, text string, depth int, want ...api.Event) {
	t.Helper()
	look := func(s *Scanner, got []api.Event) {
		t.Helper()
		if !sameEvents(got, want) {
			t.Fatalf("%s: %v, not %v", short(text), got, want)
		}
		if s.Err() != errOf(want) || s.Depth() != depth {
			t.Fatalf("%s: Err %d, Depth %d, not %d and %d", short(text), s.Err(), s.Depth(), errOf(want), depth)
		}
	}
	look(inPieces(text))
	look(byteByByte(text))
	for _, i := range []int{1, 2, 3, 5, 7, 11, 19, 31, 64, 1000, 16384} {
		if i < len(text) {
			look(inPieces(text, i))
			look(inPieces(text, i, len(text)-(len(text)-i)/2))
		}
	}
}

// lookAtWrong asks for these events, and behind them one that tells that Err, and for nothing behind that.
func lookAtWrong(t *testing.T, text string, depth int, err api.Errno, ahead ...api.Event) {
	t.Helper()
	want := append(slices.Clone(ahead), api.Event{Kind: api.EvWrong, Err: err})
	lookAt(t, text, depth, want...)
	lookAt(t, text+"<k/></k></a><k x='", depth, want...)
	lookAt(t, text+"'>\"><\xff>", depth, want...)
}

// P6.1: what ends a tag, and what does not.
func TestTags(t *testing.T) {
	for _, c := range []struct{ tag, value string }{
		{"<k v='>'/>", ">"}, {"<k v=\">\"/>", ">"}, {"<k v='\"'/>", "\""}, {"<k v=\"'\"/>", "'"},
		{"<k v='>\">'/>", ">\">"}, {"<k v=\"'>'\"/>", "'>'"}, {"<k v='/>'/>", "/>"}, {"<k v=\"1'/>\"/>", "1'/>"},
	} {
		lookAt(t, head+c.tag, 1, opened, stanza(elem("k", "", nil, "v", c.value)))
	}
	lookAt(t, head+"<k v='>", 1, opened)
	lookAt(t, head+"<k v='></k><k/>\">", 1, opened)
	lookAt(t, head+"<!-- ' -->", 1, opened) // a quote in any tag
	lookAtWrong(t, head+"<!-- ' -->'>", 1, api.ErrNever, opened)
	lookAt(t, "<?xml '?>'?>"+head, 1, opened) // the second > is the tag's
	lookAtWrong(t, head+"<k v='</k>'/>", 1, api.ErrXml, opened)
	lookAtWrong(t, head+"<k><'></k>'>", 2, api.ErrXml, opened)
	lookAtWrong(t, head+"</a'>'>", 1, api.ErrXml, opened)
}

// P6.1: characters are taken when the < behind them comes, a tag with its >.
func TestTokensAreTakenWhenWhole(t *testing.T) {
	s := New()
	for _, step := range []struct {
		feed  string
		want  int
		depth int
	}{
		{"", 0, 0}, {" \n", 0, 0}, {"<a xmlns='z'", 0, 0}, {" ", 0, 0}, {">", 1, 1}, {" ", 0, 1}, {"<k", 0, 1}, {">", 0, 2}, {"x", 0, 2},
		{"<l/", 0, 2}, {">", 0, 2}, {"y", 0, 2}, {"</k", 0, 2}, {">", 1, 1}, {"<m/>", 1, 1}, {"<m/><m/>", 2, 1}, {"</a", 0, 1}, {">", 1, 0},
	} {
		if got := s.Feed(step.feed); len(got) != step.want || s.Depth() != step.depth || s.Err() != api.OK {
			t.Fatalf("Feed(%q): %v, Depth %d, Err %d", step.feed, got, s.Depth(), s.Err())
		}
	}
	for _, text := range []string{"x", "\xff", "&", head + "x", head + "\x00&foo;", head + "<k>&foo;", head + "<k>\xff"} {
		s, got := inPieces(text)
		if errOf(got) != api.OK || s.Err() != api.OK {
			t.Errorf("%q is not whole yet: %v", text, got)
		}
		s.Feed("<")
		if s.Err() == api.OK {
			t.Errorf("%q and a <: nothing is wrong", text)
		}
	}
}

// P6.1: behind EvClose, and behind something wrong, comes nothing any more.
func TestNothingBehindTheEnd(t *testing.T) {
	for _, more := range []string{"", " ", "x<", "<", "<k/>", head, head + "<k/>", "<!-->", "<k \xff>", strings.Repeat("x", 20000)} {
		lookAt(t, head+"<k/></a>"+more, 0, opened, stanza(elem("k", "", nil)), closed)
		s, _ := inPieces(head + "</a>")
		if got := s.Feed(more); len(got) != 0 || s.Err() != api.OK || s.Depth() != 0 {
			t.Errorf("%s behind the end: %v, %d, %d", short(more), got, s.Err(), s.Depth())
		}
		lookAt(t, head+"<k></l>"+more, 2, opened, api.Event{Kind: api.EvWrong, Err: api.ErrXml})
		s, _ = inPieces(head + "<k></l>")
		if got := s.Feed(more); len(got) != 0 || s.Err() != api.ErrXml || s.Depth() != 2 {
			t.Errorf("%s behind what is wrong: %v, %d, %d", short(more), got, s.Err(), s.Depth())
		}
	}
}

// lookAtTooLong asks that the last byte of text, and none ahead of it, is the one with which all is too big.
func lookAtTooLong(t *testing.T, text string) {
	t.Helper()
	s := New()
	if got := s.Feed(text[:len(text)-1]); errOf(got) != api.OK || s.Err() != api.OK {
		t.Fatalf("%s is too big too early: %v", short(text), got)
	}
	got := s.Feed(text[len(text)-1:])
	if !sameEvents(got, []api.Event{{Kind: api.EvWrong, Err: api.ErrBig}}) || s.Err() != api.ErrBig {
		t.Fatalf("%s is not too big: %v", short(text), got)
	}
	if got := s.Feed("<k/>"); len(got) != 0 {
		t.Fatalf("%s and more: %v", short(text), got)
	}
}

// P6.1: a token of more than MaxStanza bytes.
func TestLongTokens(t *testing.T) {
	blank := strings.Repeat(" ", 16384)
	lookAt(t, blank+head, 1, opened)
	lookAt(t, head+blank+"<k/>"+blank+"</a>", 0, opened, stanza(elem("k", "", nil)), closed)
	lookAt(t, head+blank[2:]+"<k/>", 1, opened, stanza(elem("k", "", nil)))
	lookAtTooLong(t, blank+" ")
	lookAtTooLong(t, head+blank+" ")
	lookAtTooLong(t, head+"<k/>"+blank+" ")
	lookAtTooLong(t, head+"<k>"+strings.Repeat("x", 16385))
	lookAtTooLong(t, strings.Repeat("\xff", 16385))

	for _, ahead := range []string{"", head, head + "<k>"} {
		for _, front := range []string{"<", "<k", "<k v='", "<k v=\"", "</k", "<!", "<?", "<\xff", "</"} {
			for _, end := range []string{"x", ">", "'>", "\">", "/>", "<"} { // some of these > lie within quotes, some end the tag
				lookAtTooLong(t, ahead+front+strings.Repeat("x", 16385-len(front)-len(end))+end)
			}
		}
	}
	lookAt(t, "<a xmlns='z'"+blank[len(head):]+">", 1, opened)
	lookAtTooLong(t, "<a xmlns='z'"+blank[len(head):]+" >")
	lookAt(t, head+"</a"+blank[4:]+">", 0, opened, closed)
	lookAtTooLong(t, head+"</a"+blank[3:]+">")
	lookAt(t, "<?"+blank[4:]+"?>"+head, 1, opened)
	lookAtTooLong(t, "<?"+blank[3:]+"?>")
}

// P6.4: the bytes of a stanza.
func TestLongStanzas(t *testing.T) {
	for _, c := range []struct{ front, back string }{
		{"<k>", "</k>"}, {"<k>", "<l/></k>"}, {"<k v='v'><l>", "</l></k>"}, {"<k>&amp;<l>&#x41;</l>", "</k  >"},
		{"<k><l/>", "</k>"}, {"<k><l></l>", "<m/><n/></k>"},
	} {
		fill := 16384 - len(c.front) - len(c.back)
		for n := fill - 2; n <= fill; n++ {
			text := head + c.front + strings.Repeat("x", n) + c.back
			s, got := inPieces(text)
			if len(got) != 2 || got[1].Kind != api.EvStanza || s.Err() != api.OK {
				t.Fatalf("%s: %v", short(text), errOf(got))
			}
		}
		long := head + c.front + strings.Repeat("x", fill+1) + c.back
		lookAtTooLong(t, long)
		wide := head + c.front + strings.Repeat("x", fill) + c.back
		lookAt(t, wide+wide[len(head):]+" \n\t "+wide[len(head):]+"</a>", 0, modelOf(wide+wide[len(head):]+wide[len(head):]+"</a>").events...)
	}
	// Each kind of token may be the one with which there are too many bytes; it is told when that token is whole.
	front := head + "<k>" + strings.Repeat("x", 16000) + "<l>" // 16006 bytes of the stanza
	for _, last := range []string{"</l>", "<m/>", "<m>", "<!-- -->", "<?m?>", "</m>", "</a>", "<p:m/>", "<m v='&foo;'/>", "<m\xff>", "<\x00>"} {
		rest := 16384 - 16006 - len(last)
		lookAtTooLong(t, front+strings.Repeat("y", rest+1)+last)
		if _, got := inPieces(front + strings.Repeat("y", rest) + last); errOf(got) == api.ErrBig {
			t.Errorf("%q is not too big: %v", last, got[1:])
		}
	}
	lookAtTooLong(t, front+strings.Repeat("y", 379)+"<")
	lookAtTooLong(t, front+strings.Repeat("\xff", 379)+"<")
	lookAtTooLong(t, front+strings.Repeat("&", 379)+"<")
	lookAt(t, front+strings.Repeat("y", 16384), 3, opened) // not whole yet, and no longer than a token may be
	lookAt(t, front+strings.Repeat("y", 378)+"<", 3, opened)
}

// P6.2: every byte, and torn signs, in tags and in characters.
func TestLetters(t *testing.T) {
	var texts []string
	for c := range 256 {
		texts = append(texts, string([]byte{byte(c)}))
	}
	for _, n := range []int{0x7f, 0x80, 0x7ff, 0x800, 0xd7ff, 0xe000, 0xfffd, 0xfffe, 0xffff, 0x10000, 0x1fffe, 0x10ffff} {
		s := string(rune(n))
		texts = append(texts, s, s[1:], s[:len(s)-1])
	}
	texts = append(texts, "\xc0\x80", "\xed\xa0\x80", "\xed\xbf\xbf", "\xf4\x90\x80\x80", "\xef\xbb\xbf")
	for _, s := range texts {
		if strings.ContainsAny(s, "<&'\">/") {
			continue
		}
		good := isPlainText(s)
		if !good {
			lookAtWrong(t, head+"<k>a"+s+"b<", 2, api.ErrLetters, opened)
			lookAtWrong(t, head+"<k v='a"+s+"b'/>", 1, api.ErrLetters, opened)
			lookAtWrong(t, head+"<k>&foo;"+s+"<", 2, api.ErrLetters, opened) // ahead of all else that is wrong
			lookAtWrong(t, head+"<!"+s+">", 1, api.ErrLetters, opened)
			lookAtWrong(t, "<?"+s+"?>", 0, api.ErrLetters)
			lookAtWrong(t, "</a"+s+">", 0, api.ErrLetters)
			lookAtWrong(t, head+"<p:k x x "+s+"/>", 1, api.ErrLetters, opened)
			lookAtWrong(t, head+s+"<", 1, api.ErrLetters, opened)
			lookAtWrong(t, "x"+s+"<", 0, api.ErrLetters)
			continue
		}
		lookAt(t, head+"<k v='"+s+"'>"+s+"<l/>"+s+"</k>", 1, opened, stanza(elem("k", s+s, []api.Elem{elem("l", "", nil)}, "v", s)))
	}
}

// lookAtQuoted asks what s stands for in characters and in values; nothing is told where that is wrong.
func lookAtQuoted(t *testing.T, s, want string, err api.Errno) {
	t.Helper()
	if err != api.OK {
		lookAtWrong(t, head+"<k>"+s+"<", 2, err, opened)
		lookAtWrong(t, head+"<k>a;<l/>"+s+"</k>", 2, err, opened)
		lookAtWrong(t, head+"<k v='"+s+"'/>", 1, err, opened)
		lookAtWrong(t, head+"<k v=';' w=\"x"+s+"\" y=';'/>", 1, err, opened)
		lookAtWrong(t, head+"<k xmlns:p='"+s+"'/>", 1, err, opened)
		return
	}
	lookAt(t, head+"<k v='"+s+"' w=\"a"+s+"b\">"+s+"<l>;"+s+s+"</l></k>", 1, opened,
		stanza(elem("k", want, []api.Elem{elem("l", ";"+want+want, nil)}, "v", want, "w", "a"+want+"b")))
}

// P6.2: what stands for other signs.
func TestQuoted(t *testing.T) {
	for s, want := range map[string]string{
		"&amp;": "&", "&lt;": "<", "&gt;": ">", "&apos;": "'", "&quot;": "\"", "&amp;amp;": "&amp;", "&amp;lt;&lt;": "&lt;<",
		"&#65;": "A", "&#x41;": "A", "&#0000065;": "A", "&#x0000041;": "A", "&#x4a;&#x4A;": "JJ", "&#9;": "\t", "&#xA;": "\n", "&#xd;": "\r",
		"&#32;": " ", "&#x20;": " ", "&#38;": "&", "&#60;": "<", "&#38;amp;": "&amp;", "&#x20ac;": "\u20ac", "&#8364;": "\u20ac",
		"&#xD7FF;": "\ud7ff", "&#xE000;": "\ue000", "&#xFFFD;": "\ufffd", "&#x10000;": "\U00010000", "&#65536;": "\U00010000",
		"&#x10FFFF;": "\U0010ffff", "&#x10fFfF;": "\U0010ffff", "&#1114111;": "\U0010ffff", "&#x010FFFF;": "\U0010ffff", "&#127;": "\x7f",
		"": "", ">": ">", "a>b]]>": "a>b]]>", " \t\r\n x ": " \t\r\n x ", "\r": "\r", "a;b": "a;b", "#65;": "#65;", "/": "/", "\u20ac": "\u20ac",
	} {
		lookAtQuoted(t, s, want, api.OK)
	}
	lookAt(t, head+"<k v='\"' w=\"'\">'\"</k>", 1, opened, stanza(elem("k", "'\"", nil, "v", "\"", "w", "'")))
	long := strings.Repeat("n", 64)
	for _, s := range []string{"&foo;", "&_;", "&a;", "&Amp;", "&AMP;", "&amp.;", "&x41;", "&nbsp;", "&lt-1;", "&" + long + ";", "a&foo;b", "&foo;&;", "&amp;&foo;", "&foo;&#0;"} {
		lookAtQuoted(t, s, "", api.ErrNever)
	}
	for _, s := range []string{
		"&", "&;", "&amp", "&foo", "& ;", "& amp;", "&amp ;", "&&amp;", "&1;", "&-a;", "&.;", "&a:b;", "&a&b;", "&\u00e9;", "&" + long + "n;",
		"&#;", "&#x;", "&#X41;", "&# 65;", "&#65 ;", "&#+65;", "&#-65;", "&#6_5;", "&#x0x41;", "&#6a;", "&#xg;", "&#x-1;", "&##65;", "&#65", "&#x41",
		"&#00000065;", "&#x00000041;", "&#11141110;", "&#0;", "&#x0;", "&#8;", "&#xB;", "&#12;", "&#x1F;", "&#xD800;", "&#xdfff;", "&#xFFFE;", "&#65535;",
		"&#1114112;", "&#x110000;", "&#9999999;", "&#xfffffff;", "&#x100000041;", "&;&foo;", "&#0;&foo;", "&amp;&;", "a&b",
	} {
		lookAtQuoted(t, s, "", api.ErrXml)
	}
	// The ; must stand in the same characters, and the same value.
	lookAtWrong(t, head+"<k>&foo<l/>;</k>", 2, api.ErrXml, opened)
	lookAtWrong(t, head+"<k v='&foo' w=';'/>", 1, api.ErrXml, opened)
	lookAtWrong(t, head+"<k v='&amp'>;<l/>;</k>", 1, api.ErrXml, opened)
}

// P6.2: of characters that stand in no stanza only P6.4 asks.
func TestQuotedOutside(t *testing.T) {
	for _, s := range []string{"&amp;", "&foo;", "&;", "&", "&#32;", "&#x20;", " &#9;"} {
		lookAtWrong(t, s+"<", 0, api.ErrXml)
		lookAtWrong(t, head+s+"<", 1, api.ErrXml, opened)
		lookAtWrong(t, head+"<k/>"+s+"<", 1, api.ErrXml, opened, stanza(elem("k", "", nil)))
	}
}

// P6.3: what begins with <? or <!.
func TestNever(t *testing.T) {
	for _, s := range []string{"<?xml version='1.0'?>", "<??>", "<?xml?>", "<?foo bar?>", "<?'>'?>", "<??\n?>", "<?<?>"} {
		lookAt(t, s, 0)
		lookAt(t, s+head, 1, opened)
		lookAt(t, s+" \n"+head, 1, opened)
		lookAtWrong(t, s+s, 0, api.ErrNever)
		lookAtWrong(t, " "+s, 0, api.ErrNever)
		lookAtWrong(t, "\n"+s, 0, api.ErrNever)
		lookAtWrong(t, s+" "+s, 0, api.ErrNever)
		lookAtWrong(t, head+s, 1, api.ErrNever, opened)
		lookAtWrong(t, head+"<k>"+s, 2, api.ErrNever, opened)
		lookAtWrong(t, head+"<k/>"+s, 1, api.ErrNever, opened, stanza(elem("k", "", nil)))
	}
	for _, s := range []string{"<?>", "<?xml>", "<?xml version='1.0'>", "<?xml ? >", "<? >", "<?a/>", "<?'?'>", "<!>", "<!?>", "<!-->", "<!-- -->", "<!DOCTYPE a>", "<![CDATA[x]]>", "<!ELEMENT a '>'>"} {
		lookAtWrong(t, s, 0, api.ErrNever)
		lookAtWrong(t, head+s, 1, api.ErrNever, opened)
		lookAtWrong(t, head+"<k>"+s, 2, api.ErrNever, opened)
	}
	lookAtWrong(t, "<?xml?><!-->", 0, api.ErrNever)
}

// P6.3: the forms of tags.
func TestForms(t *testing.T) {
	plain := []api.Event{opened, stanza(elem("k", "", nil))}
	for _, s := range []string{"<k/>", "<k />", "<k\t\r\n />", "<k></k>", "<k ></k\n>", "<k\n></k \t>", "<k xmlns='z'/>", "<k xmlns:p='q'/>"} {
		lookAt(t, head+s, 1, plain...)
	}
	valued := []api.Event{opened, stanza(elem("k", "", nil, "v", "1", "w-.2", ""))}
	for _, s := range []string{"<k v='1' w-.2=''/>", "<k v=\"1\" w-.2=\"\" />", "<k \n v='1'\tw-.2=''></k>", "<k\rv='1'\r\nw-.2=\"\"\n></k>"} {
		lookAt(t, head+s, 1, valued...)
	}
	for _, s := range []string{
		"<>", "</>", "< k/>", "<k/ >", "<k / >", "<k//>", "<k //>", "<//>", "<1/>", "<-k/>", "<.k/>", "<:k/>", "<k:/>", "<:/>", "<a:b:c/>", "<k'/>'>", "<k\"\">", "<k,/>", "<\u00e9/>", "<k\u00e9/>", "<k=''/>", "<k<>", "<k <l/>", "<<k/>",
		"<k v/>", "<k v=/>", "<k v=1/>", "<k v='1'w='2'/>", "<k v='1'/ >", "<k v = '1'/>", "<k v ='1'/>", "<k v= '1'/>", "<k ='1'/>", "<k '1'/>", "<k v='1' '2'/>", "<k v='1'''/>", "<k v==''/>", "<k v''/>", "<k/v='1'/>", "<kv='1'/>", "<k 'v'='1'/>",
		"<k 1='1'/>", "<k -v='1'/>", "<k v:='1'/>", "<k :v='1'/>", "<k a:b:c='1'/>", "<k v\u00e9='1'/>", "<k v='<'/>", "<k v=\"a<b\"/>", "<k v='1' w='<'/>", "<k v='&lt;<'/>", "<k xmlns='<'/>", "<k v=`1`/>", "<k\u00a0v='1'/>", "<k\u2028/>",
		"</ a>", "</a/>", "</a v='1'>", "</a b>", "</a:>", "</:a>", "</1>", "</a\u00a0>", "</<a>", "</a</>",
	} {
		lookAtWrong(t, head+s, 1, api.ErrXml, opened)
		lookAtWrong(t, head+"<k>"+s, 2, api.ErrXml, opened)
		lookAtWrong(t, s, 0, api.ErrXml)
	}
}

// P6.3: every byte at each place of names, of elements and of attributes, ahead of a colon and behind it.
func TestNames(t *testing.T) {
	long := strings.Repeat("n", 64)
	names := []string{"", "a", "_", "Z9.-_", "xml1", long, long[1:] + "-", long + "n", strings.Repeat(long, 9)}
	for c := range 0x80 {
		if b := string(rune(c)); !strings.ContainsAny(b, "<>'\"/= \t\r\n") && isPlain(int64(c)) {
			names = append(names, b, "a"+b, "a"+b+"a")
		}
	}
	for _, n := range names {
		if strings.Contains(n, ":") {
			continue
		}
		texts := []string{"<" + n + "/>", "<p:" + n + "/>", "<k xmlns:" + n + "='q'/>", "<k " + n + "='1'/>", "<k p:" + n + "='1'/>", "<" + n + " v='1'></" + n + ">"}
		for _, text := range texts {
			text = "<a xmlns='z' xmlns:p='y'>" + text
			if m := modelOf(text); nameForm.MatchString(n) == (errOf(m.events) != api.OK) {
				t.Fatalf("model: %s: %v", short(text), m.events)
			}
			lookAt(t, text, 1, modelOf(text).events...)
		}
	}
	lookAt(t, head+"<"+long+"/>", 1, opened, stanza(elem(long, "", nil)))
	lookAtWrong(t, head+"<"+long+"n/>", 1, api.ErrXml, opened)
	lookAt(t, head+"<k "+long+"='1'/>", 1, opened, stanza(elem("k", "", nil, long, "1")))
	lookAtWrong(t, head+"<k "+long+"n='1'/>", 1, api.ErrXml, opened)
	lookAt(t, head+"<"+long+":"+long+" xmlns:"+long+"='z'/>", 1, opened, stanza(elem(long, "", nil)))
}

// attrs writes n attributes with names that differ.
func attrs(n int) string {
	var out strings.Builder
	for i := range n {
		out.WriteString(" n" + strconv.Itoa(i) + "='" + strconv.Itoa(i) + "'")
	}
	return out.String()
}

// P6.3: two attributes of one name, and more than MaxAttrs.
func TestAttrs(t *testing.T) {
	for _, s := range []string{
		"v='1' v='1'", "v='1' v='2'", "v='' w='' v=''", "p:v='1' p:v='2'", "xml:lang='a' xml:lang='b'", "xmlns='q' xmlns='q'", "xmlns:q='q' xmlns:q='r'", "xml:a='1' xml:a='1'", "w='' v='' v=''",
	} {
		lookAtWrong(t, head+"<k xmlns:p='q' "+s+"/>", 1, api.ErrXml, opened)
	}
	lookAt(t, head+"<k v='1' V='2' xmlns:p='q' p:v='3' xmlns:v='r' v:v='4' xml:v='5'/>", 1, opened, stanza(elem("k", "", nil, "v", "1", "V", "2")))

	most := elem("k", "", nil)
	for i := range 16 {
		most.Attrs = append(most.Attrs, api.Attr{Name: "n" + strconv.Itoa(i), Value: strconv.Itoa(i)})
	}
	declares := " xmlns='z'"
	for i := range 40 {
		declares += " xmlns:p" + strconv.Itoa(i) + "='q'"
	}
	lookAt(t, head+"<k"+attrs(16)+"/>", 1, opened, stanza(most))
	lookAt(t, head+"<k"+declares+attrs(16)+"/>", 1, opened, stanza(most))
	lookAt(t, head+"<k"+attrs(16)+declares+"/>", 1, opened, stanza(most))
	lookAtWrong(t, head+"<k"+attrs(17)+"/>", 1, api.ErrBig, opened)
	lookAtWrong(t, head+"<k"+attrs(16)+declares+" w=''/>", 1, api.ErrBig, opened)
	lookAtWrong(t, head+"<k"+attrs(16)+" xml:lang=''/>", 1, api.ErrBig, opened)
	lookAtWrong(t, head+"<k"+attrs(16)+" xml:space=''/>", 1, api.ErrBig, opened) // one that is passed over counts
	lookAtWrong(t, head+"<k xmlns:p='q'"+attrs(16)+" p:v=''/>", 1, api.ErrBig, opened)
	lookAtWrong(t, head+"<k"+attrs(500)+"/>", 1, api.ErrBig, opened)
	lookAtWrong(t, "<a xmlns='z'"+attrs(17)+">", 0, api.ErrBig)
	lookAt(t, "<a xmlns='z'"+attrs(16)+">", 1, api.Event{Kind: api.EvOpen, Elem: api.Elem{Space: "z", Name: "a", Attrs: most.Attrs}})
}

// P6.2 to P6.4: of two things that are wrong, the one that is asked first is told.
func TestOrder(t *testing.T) {
	for s, err := range map[string]api.Errno{
		"<k" + attrs(17) + " n0=''/>":                                    api.ErrXml, // twins, then how many
		"<k" + attrs(17) + " v='<'/>":                                    api.ErrXml, // the form, then how many
		"<k" + attrs(17) + " v='&foo;'/>":                                api.ErrBig, // how many, then the values
		"<k" + attrs(17) + " xmlns=''/>":                                 api.ErrBig,
		"<p:k" + attrs(17) + "/>":                                        api.ErrBig,
		"<k v='&foo;' v='1'/>":                                           api.ErrXml, // twins, then the values
		"<k v='&foo;' w='<'/>":                                           api.ErrXml, // the form, then the values
		"<k v='&foo;' w='&;'/>":                                          api.ErrNever,
		"<k v='&;' w='&foo;'/>":                                          api.ErrXml,
		"<k xmlns='' v='&foo;'/>":                                        api.ErrNever, // the values, then what is declared
		"<k xmlns:xml='q' v='&foo;'/>":                                   api.ErrNever,
		"<k xmlns='&foo;' v='&;'/>":                                      api.ErrNever,
		"<p:k v='&foo;'/>":                                               api.ErrNever, // the values, then prefixes
		"<k p:v='&foo;'/>":                                               api.ErrNever,
		"<k p:v='' w='&foo;'/>":                                          api.ErrNever,
		"<k><l><l><l><l><l><l><l><l><l><l><l><l><l><l><l><p:l/>":         api.ErrXml, // what P6.3 asks, then the depth
		"<k><l><l><l><l><l><l><l><l><l><l><l><l><l><l><l><l v='&foo;'/>": api.ErrNever,
		"<k><l><l><l><l><l><l><l><l><l><l><l><l><l><l><l><l/>":           api.ErrBig,
	} {
		depth := 1 + strings.Count(s, "<k><") + strings.Count(s, "<l>")
		lookAtWrong(t, head+s, depth, err, opened)
	}
	for s, err := range map[string]api.Errno{
		"<a/>": api.ErrXml, "<a xmlns='z'/>": api.ErrXml, "<a xmlns='z' v='&foo;'/>": api.ErrNever, "<a xmlns='z'" + attrs(17) + "/>": api.ErrBig, "<a v='\xff'/>": api.ErrLetters,
	} {
		lookAtWrong(t, s, 0, err)
	}
}

// P6.3: namespaces, of elements.
func TestSpaces(t *testing.T) {
	of := func(space, name string, kids ...api.Elem) api.Elem {
		return api.Elem{Space: space, Name: name, Kids: kids}
	}
	open := api.Event{Kind: api.EvOpen, Elem: of("y", "a")}
	front := "<p:a xmlns='z' xmlns:p='y' xmlns:q='x'>"
	for s, want := range map[string]api.Elem{
		"<k/>": of("z", "k"), "<p:k/>": of("y", "k"), "<q:k/>": of("x", "k"), "<k xmlns='w'/>": of("w", "k"), "<p:k xmlns='w'/>": of("y", "k"),
		"<p:k xmlns:p='w'/>": of("w", "k"), "<r:k xmlns:r='w'/>": of("w", "k"), "<k xmlns:p='w'/>": of("z", "k"), "<p:k><l/></p:k>": of("y", "k", of("z", "l")),
		"<k xmlns='w'><l/><p:l/></k>":                                  of("w", "k", of("w", "l"), of("y", "l")),
		"<k xmlns='w'><l xmlns='v'><m/></l><l/></k>":                   of("w", "k", of("v", "l", of("v", "m")), of("w", "l")),
		"<r:k xmlns:r='w'><l><r:m/></l><r:l xmlns:r='v'/><r:l/></r:k>": of("w", "k", of("z", "l", of("w", "m")), of("v", "l"), of("w", "l")),
		"<p:k xmlns:p='w' xmlns='v'><l><p:l/></l></p:k>":               of("w", "k", of("v", "l", of("w", "l"))),
		"<k xmlns='&lt;&#x41;>'/>":                                     of("<A>", "k"), "<xmlns/>": of("z", "xmlns"), "<xml/>": of("z", "xml"), "<p:xmlns/>": of("y", "xmlns"),
		"<k xmlns=' '/>": of(" ", "k"), "<k xmlns='http://www.w3.org/XML/1998/namespace'/>": of("http://www.w3.org/XML/1998/namespace", "k"),
		"<k xmlns:P='w'><P:l/><p:l/></k>": of("z", "k", of("w", "l"), of("y", "l")),
	} {
		lookAt(t, front+s, 1, open, stanza(want))
		lookAt(t, front+s+s, 1, open, stanza(want), stanza(want))
	}
	for _, s := range []string{"<r:k/>", "<P:k/>", "<xml:k/>", "<xmlns:k/>", "<k xmlns:r='w'/><r:k/>", "<r:k/><k xmlns:r='w'/>", "<k><l xmlns:r='w'/><r:l/></k>", "<r:k><l xmlns:r='w'/></r:k>"} {
		if _, got := inPieces(front + s); errOf(got) != api.ErrXml {
			t.Errorf("%q: %v", s, got)
		}
	}
	lookAtWrong(t, "<a>", 0, api.ErrXml)
	lookAtWrong(t, "<p:a xmlns='z'>", 0, api.ErrXml)
	lookAtWrong(t, "<a xmlns:p='y'>", 0, api.ErrXml)
	lookAtWrong(t, "<p:a xmlns:p='y'><k/>", 1, api.ErrXml, open) // nothing is declared for names without a prefix
	lookAt(t, "<p:a xmlns:p='y'><k xmlns='w'/>", 1, open, stanza(of("w", "k")))
}

// P6.3: what may be declared.
func TestDeclared(t *testing.T) {
	long := strings.Repeat("s", 256)
	amps := strings.Repeat("&", 256)
	for _, s := range []string{"s", long, amps, strings.Repeat("\u20ac", 85), ">"} {
		lookAt(t, head+"<k xmlns='"+tag.Quote(s)+"'/>", 1, opened, stanza(api.Elem{Space: s, Name: "k"}))
		lookAt(t, head+"<p:k xmlns:p='"+tag.Quote(s)+"'/>", 1, opened, stanza(api.Elem{Space: s, Name: "k"}))
		lookAt(t, "<a xmlns=\""+tag.Quote(s)+"\">", 1, api.Event{Kind: api.EvOpen, Elem: api.Elem{Space: s, Name: "a"}})
	}
	for _, s := range []string{"", long + "s", amps + "&", strings.Repeat("\u20ac", 86)} {
		for _, name := range []string{"xmlns", "xmlns:p", "xmlns:q"} {
			lookAtWrong(t, head+"<k "+name+"='"+tag.Quote(s)+"'/>", 1, api.ErrXml, opened)
		}
		lookAtWrong(t, "<a xmlns='"+tag.Quote(s)+"'>", 0, api.ErrXml)
	}
	for _, s := range []string{"xmlns:xml='q'", "xmlns:xmlns='q'", "xmlns:xml='http://www.w3.org/XML/1998/namespace'", "xmlns:p='q' xmlns:xml='q'"} {
		lookAtWrong(t, head+"<k "+s+"/>", 1, api.ErrXml, opened)
	}
	lookAt(t, head+"<xml1:k xmlns:xml1='q' xmlns:Xml='q' xmlns:xmlnss='q'/>", 1, opened, stanza(api.Elem{Space: "q", Name: "k"}))
}

// P6.3: attributes with a prefix.
func TestPrefixesOfAttrs(t *testing.T) {
	front := "<a xmlns='z' xmlns:p='y'>"
	for s, want := range map[string]api.Elem{
		"<k xml:lang='en'/>":                      elem("k", "", nil, "xml:lang", "en"),
		"<k v='1' xml:lang='' w='2'/>":            elem("k", "", nil, "v", "1", "xml:lang", "", "w", "2"),
		"<k lang='de' xml:lang='en'/>":            elem("k", "", nil, "lang", "de", "xml:lang", "en"),
		"<k xml:space='1' v='1'/>":                elem("k", "", nil, "v", "1"),
		"<k xml:xmlns='1' xml:Lang='2'/>":         elem("k", "", nil),
		"<k p:lang='1' v='1' p:v='2'/>":           elem("k", "", nil, "v", "1"),
		"<k p:xmlns='q'/>":                        elem("k", "", nil),
		"<k q:v='1' xmlns:q='x' v='2'/>":          elem("k", "", nil, "v", "2"), // declared behind it
		"<k xmlns:q='x'><l q:v='1' w='2'/></k>":   elem("k", "", []api.Elem{elem("l", "", nil, "w", "2")}),
		"<k xmlns:v='x' v='1'/>":                  elem("k", "", nil, "v", "1"),
		"<k xml='1' lang='2'/>":                   elem("k", "", nil, "xml", "1", "lang", "2"),
		"<k w='2' v='1'><l v='&#39;' w=''/></k >": elem("k", "", []api.Elem{elem("l", "", nil, "v", "'", "w", "")}, "w", "2", "v", "1"),
	} {
		lookAt(t, front+s, 1, opened, stanza(want))
	}
	lookAt(t, "<a xmlns='z' xml:lang='en' xmlns:p='q' p:v='1' id='2'>", 1, api.Event{Kind: api.EvOpen, Elem: elem("a", "", nil, "xml:lang", "en", "id", "2")})
	for _, s := range []string{"<k q:v='1'/>", "<k P:v='1'/>", "<k v='1' q:lang='en'/>", "<k XML:lang='en'/>", "<k p:v='1' q:v='1'/>", "<k xmln:s='1'/>"} {
		lookAtWrong(t, front+s, 1, api.ErrXml, opened)
	}
	lookAtWrong(t, front+"<k><l xmlns:q='x'/><l q:v='1'/>", 2, api.ErrXml, opened)
	lookAtWrong(t, "<a xmlns='z' p:v='1'>", 0, api.ErrXml)
}

// P6.4: how a stream begins.
func TestOpening(t *testing.T) {
	for _, s := range []string{"", " ", "\t\r\n ", "<?xml?>", "<?xml?>\n"} {
		lookAt(t, s, 0)
		lookAt(t, s+head, 1, opened)
		lookAtWrong(t, s+"<a xmlns='z'/>", 0, api.ErrXml)
		lookAtWrong(t, s+"</a>", 0, api.ErrXml)
		lookAtWrong(t, s+"x<a xmlns='z'>", 0, api.ErrXml)
	}
	for _, s := range []string{"x<", "\v<", "\u00a0<", "\ufeff<", ">"} {
		if s == "\v<" {
			lookAtWrong(t, s, 0, api.ErrLetters)
		} else if s == ">" {
			lookAt(t, s, 0)
			lookAtWrong(t, s+"<", 0, api.ErrXml)
		} else {
			lookAtWrong(t, s, 0, api.ErrXml)
		}
	}
}

// P6.4: what lies between stanzas, and in them.
func TestStanzas(t *testing.T) {
	k := stanza(elem("k", "", nil))
	for _, s := range []string{"", " ", "\n\t\r  "} {
		lookAt(t, head+s+"<k/>"+s+"<k></k>"+s+"</a>", 0, opened, k, k, closed)
	}
	for _, s := range []string{"x", " x", "x\n", ">", "\u00a0", ";", "0"} {
		lookAtWrong(t, head+s+"<k/>", 1, api.ErrXml, opened)
		lookAtWrong(t, head+"<k/>"+s+"</a>", 1, api.ErrXml, opened, k)
		lookAt(t, head+"<k>"+s+"<l>"+s+s+"</l>"+s+"</k>", 1, opened, stanza(elem("k", s+s, []api.Elem{elem("l", s+s, nil)})))
	}
	lookAt(t, head+"<k> <l/>\n<l> </l>\t</k>", 1, opened, stanza(elem("k", " \n\t", []api.Elem{elem("l", "", nil), elem("l", " ", nil)})))
	lookAt(t, head+"<a><a/></a></a>", 0, opened, stanza(elem("a", "", []api.Elem{elem("a", "", nil)})), closed)
	lookAt(t, head+"</a>", 0, opened, closed)
	lookAt(t, "<p:a xmlns:p='z'></p:a >", 0, opened, closed)
	lookAt(t, head+"<k>1<l>2<m>3</m>4</l>5<n/>6</k>", 1, opened,
		stanza(elem("k", "156", []api.Elem{elem("l", "24", []api.Elem{elem("m", "3", nil)}), elem("n", "", nil)})))
}

// P6.4: an end has the name with which the innermost element has begun.
func TestEnds(t *testing.T) {
	front := "<p:a xmlns='z' xmlns:p='z' xmlns:q='z'>"
	for _, s := range []string{"</a>", "</q:a>", "</p:k>", "</P:a>", "</p:A>", "<p:k></k>", "<p:k></q:k>", "<k></p:k>", "<k></K>", "<k></kk>", "<k><l></k>", "<k></p:a>", "<k></l></k>", "<k/></k>", "<k></k></k>"} {
		if _, got := inPieces(front + s); errOf(got) != api.ErrXml {
			t.Errorf("%q: %v", s, got)
		}
	}
	lookAt(t, front+"<p:k><q:k></q:k><k></k></p:k></p:a>", 0, opened, stanza(elem("k", "", []api.Elem{elem("k", "", nil), elem("k", "", nil)})), closed)
	lookAtWrong(t, head+"<k></l>", 2, api.ErrXml, opened)
	lookAtWrong(t, head+"</k>", 1, api.ErrXml, opened)
}

// P6.4: elements within one another.
func TestDepths(t *testing.T) {
	deep := elem("k", "", nil)
	for range 15 {
		deep = elem("k", "", []api.Elem{deep})
	}
	starts, ends := strings.Repeat("<k>", 15), strings.Repeat("</k>", 15)
	for _, s := range []string{"<k/>", "<k></k>"} {
		lookAt(t, head+starts+s+ends, 1, opened, stanza(deep))
		lookAt(t, head+starts+s+ends+starts+s+ends+"</a>", 0, opened, stanza(deep), stanza(deep), closed)
	}
	lookAt(t, head+starts+"<k>", 17, opened)
	for _, s := range []string{"<k/>", "<k>", "<l v='1'>"} {
		lookAtWrong(t, head+starts+"<k>"+s, 17, api.ErrBig, opened)
		lookAtWrong(t, head+starts+"<k></k><k/><k>"+s, 17, api.ErrBig, opened)
	}
	wide := elem("k", "", nil)
	for range 1000 {
		wide.Kids = append(wide.Kids, elem("l", "", nil))
	}
	lookAt(t, head+"<k>"+strings.Repeat("<l/>", 1000)+"</k>", 1, opened, stanza(wide))
}

// P6.5: Err and Depth, of all scanners.
func TestErrAndDepth(t *testing.T) {
	var none *Scanner
	if got := none.Feed(head); len(got) != 0 || none.Err() != api.ErrNone || none.Depth() != 0 {
		t.Error("nil:", got, none.Err(), none.Depth())
	}
	s := New()
	if s == nil || s.Err() != api.OK || s.Depth() != 0 || len(s.Feed("")) != 0 {
		t.Error("New:", s)
	}
	lookAt(t, head, 1, opened)
	lookAt(t, head+"<k>", 2, opened)
	lookAt(t, head+"<k><l>x<", 3, opened)
	lookAt(t, head+"<k><l></l>", 2, opened)
	lookAtWrong(t, head+"<k><l>&foo;<", 3, api.ErrNever, opened) // what was open ahead of what is wrong
	lookAtWrong(t, head+"<k><l><p:m>", 3, api.ErrXml, opened)

	other := New()
	other.Feed(head + "<k>")
	s.Feed("x<")
	if s.Err() != api.ErrXml || other.Err() != api.OK || other.Depth() != 2 || len(other.Feed("</k>")) != 1 {
		t.Error("one scanner has to do with another")
	}
}

// The rules that hold everywhere: what was answered is not changed by what comes later, nor by who has got it.
func TestAnswersAreApart(t *testing.T) {
	const k = "<k v='1'>x<l w='2'/><l/><l/>y</k>"
	s := New()
	all := s.Feed("<a xmlns='z' v='1' w='2'>" + k + k)
	want := stanza(elem("k", "xy", []api.Elem{elem("l", "", nil, "w", "2"), elem("l", "", nil), elem("l", "", nil)}, "v", "1"))
	if len(all) != 3 || !sameEvents(all[1:], []api.Event{want, want}) {
		t.Fatal(all)
	}
	all[0].Elem.Attrs[0].Value = "!"
	spoilt := append(all[1].Elem.Kids[:1], elem("spoilt", "", nil))
	spoilt[0].Attrs[0].Name = "!"
	_ = append(all[1].Elem.Attrs, api.Attr{Name: "spoilt"})
	if got := s.Feed(k); !sameEvents(append(got, all[2]), []api.Event{want, want}) {
		t.Fatal(got, all[2])
	}
}

// pieces are what makes streams: good ones and bad ones.
var pieces = []string{
	"<k>", "<k>", "</k>", "</k>", "<k/>", "<l>", "</l>", "<l/>", "<p:k>", "</p:k>", "<p:l/>", "<q:l xmlns:q='x' q:v='1' v='2'/>", "<k xmlns='y'>", "<l xmlns:p='w'>", "<k v='1' w=\"2\" xml:lang='en'/>",
	" ", "\n", "x", "a b", "&amp;", "&#x41;", ">", "'", "\"", "\u20ac", "<k v='>'/>", "<l\n\tv='&lt;'\r/>", "</k >", "</a>", "<?xml?>", "<!-->",
	"&", "&foo;", ";", "<", "=", "/", "\xff", "\x00", "<k v='1' v='2'/>", "<k xmlns=''/>", "<r:k/>", "<k r:v='1'/>", "<k p:v='1'/>", "<k v='&#0;'/>", "<k v='&foo;'/>", "<k" + attrs(17) + "/>", "<k" + attrs(16) + "/>",
}

// wild makes a stream: a beginning, then good pieces for a while, then any; at times with a byte that is another one.
func wild(r *rand.Rand) string {
	var out strings.Builder
	out.WriteString([]string{"", "", "", "<?xml version='1.0'?>", " ", "\n<?xml?>", "x"}[r.Intn(7)])
	out.WriteString([]string{head, head, "<a xmlns='z' xmlns:p='y' v='1'>", "<p:a xmlns:p='y'>", "<a xmlns='z' xmlns:p='y'>", "<a>", "<a xmlns='z'/>"}[r.Intn(7)])
	var open []string
	for range r.Intn(40) {
		switch n := r.Intn(8); {
		case n < 3 && len(open) < 19:
			name := []string{"k", "l", "p:k", "p:l"}[r.Intn(4)]
			out.WriteString("<" + name + []string{"", " ", " xmlns:p='v'", " xmlns='v'", " p:v='1'", " v='1'\tw='&gt;'"}[r.Intn(6)] + ">")
			open = append(open, name)
		case n < 6 && len(open) > 0:
			out.WriteString("</" + open[len(open)-1] + ">")
			open = open[:len(open)-1]
		case n == 6:
			out.WriteString(pieces[r.Intn(29)])
		case r.Intn(6) == 0:
			out.WriteString(pieces[r.Intn(len(pieces))])
		default:
			out.WriteString(pieces[15+r.Intn(12)])
		}
	}
	text := []byte(out.String())
	for r.Intn(3) == 0 && len(text) > 1 {
		i := r.Intn(len(text))
		text[i] = "<>'\"&;/=: xk\xff\x00"[r.Intn(14)]
	}
	return string(text)
}

// P6.1 to P6.6: streams of all kinds, whole, byte by byte, and in pieces, against the promises' words.
func TestAgainstTheModel(t *testing.T) {
	r := rand.New(rand.NewSource(6))
	times := map[string]int{}
	for range 60000 {
		text := wild(r)
		m := modelOf(text)
		look := func(s *Scanner, got []api.Event) {
			if !sameEvents(got, m.events) || s.Err() != errOf(m.events) || s.Depth() != len(m.open) {
				t.Fatalf("%q: %v, %d, %d, not %v, %d", text, got, s.Err(), s.Depth(), m.events, len(m.open))
			}
		}
		look(inPieces(text))
		look(byteByByte(text))
		cuts := []int{r.Intn(len(text)), r.Intn(len(text)), r.Intn(len(text)), r.Intn(len(text))}
		slices.Sort(cuts)
		look(inPieces(text, cuts...))
		times["err "+strconv.Itoa(int(errOf(m.events)))]++
		for _, e := range m.events {
			times["event "+strconv.Itoa(e.Kind)]++
			if len(e.Elem.Kids) > 0 && len(e.Elem.Kids[0].Kids) > 0 {
				times["deep"]++
			}
		}
	}
	for _, what := range []string{"err 0", "err 60", "err 61", "err 62", "err 63", "event 1", "event 2", "event 3", "event 4", "deep"} {
		if times[what] < 100 {
			t.Errorf("%s came %d times only", what, times[what])
		}
	}
}

// P6.6: one stream, cut at each pair of places.
func TestWhateverPieces(t *testing.T) {
	for _, text := range []string{
		"<?xml v='?>'?>\n<p:a xmlns='z' xmlns:p='y'> <k v='&#x41;>\u20ac'>x&amp;<l/></k>\n<p:k></p:k ></p:a>x",
		head + "<k>&quot;\u20ac<l w=\"'\"/></k><k>\xe2\x82</k>",
	} {
		m := modelOf(text)
		for i := range len(text) {
			for j := i; j <= len(text); j++ {
				if s, got := inPieces(text, i, j); !sameEvents(got, m.events) || s.Err() != errOf(m.events) || s.Depth() != len(m.open) {
					t.Fatalf("%q, %q, %q: %v", text[:i], text[i:j], text[j:], got)
				}
			}
		}
	}
}

// someElem makes an element that may be.
func someElem(r *rand.Rand, depth int) api.Elem {
	any := func(texts ...string) string { return texts[r.Intn(len(texts))] }
	e := api.Elem{
		Space: any("z", "y", "'<&>\"", "\t\u20ac", strings.Repeat("&", 256), "xmlns"),
		Name:  any("k", "_", "a.b-c", "xmlns", strings.Repeat("n", 64)),
		Text:  any("", "", "x", " \t\r\n", "<&>'\"", "&amp;", "]]>", "\u20ac\U0010ffff"),
	}
	for _, name := range []string{"v", "xml:lang", "id", "V", "xml", "lang"} {
		if r.Intn(4) == 0 {
			e.Attrs = append(e.Attrs, api.Attr{Name: name, Value: any("", "1", "'\"", "\t\n\r ", "<&>", "&#x41;", "\ufffd")})
		}
	}
	for depth < 16 && r.Intn(3) > 0 && len(e.Kids) < 3 {
		e.Kids = append(e.Kids, someElem(r, depth+1+r.Intn(4)))
	}
	return e
}

func lookAtThereAndBack(t *testing.T, e api.Elem) {
	t.Helper()
	for _, text := range []string{head + tag.Put(e, "z") + "</a>", head + tag.Put(e, "") + "</a>"} {
		if _, got := inPieces(text); !sameEvents(got, []api.Event{opened, stanza(e), closed}) {
			t.Fatalf("%s: %v", short(text), errOf(got))
		}
	}
	own := "<p:a xmlns:p='z'>" + tag.Put(e, "") + "</p:a>" // where no xmlns was declared
	if _, got := byteByByte(own); !sameEvents(got, []api.Event{opened, stanza(e), closed}) {
		t.Fatalf("%s: %v", short(own), errOf(got))
	}
}

// P6.7: elements that may be, there and back.
func TestThereAndBack(t *testing.T) {
	r := rand.New(rand.NewSource(7))
	for n := 0; n < 3000; {
		if e := someElem(r, 1); tag.Check(e) == api.OK {
			lookAtThereAndBack(t, e)
			n++
		}
	}
	deep := elem("k", "x", nil)
	for range 15 {
		deep = elem("k", "", []api.Elem{deep}, "v", "1")
	}
	most := elem("k", "", nil)
	for i := range 16 {
		most.Attrs = append(most.Attrs, api.Attr{Name: "n" + strconv.Itoa(i), Value: ""})
	}
	big := elem("k", "", []api.Elem{elem("l", "x", nil), most})
	big.Text = strings.Repeat("'", (16384-len(tag.Put(big, "")))/6)
	big.Text += strings.Repeat("x", 16384-len(tag.Put(big, "")))
	for _, e := range []api.Elem{deep, most, big} {
		if tag.Check(e) != api.OK {
			t.Fatal("it may not be:", short(tag.Put(e, "")))
		}
		lookAtThereAndBack(t, e)
	}
	if len(tag.Put(big, "")) != 16384 {
		t.Error("not the biggest one:", len(tag.Put(big, "")))
	}
}

// The chapter's example.
func TestExample(t *testing.T) {
	_, got := byteByByte("<a xmlns='b'><c>x</c></a>")
	want := []api.Event{
		{Kind: api.EvOpen, Elem: api.Elem{Space: "b", Name: "a"}}, {Kind: api.EvStanza, Elem: api.Elem{Space: "b", Name: "c", Text: "x"}}, closed,
	}
	if !sameEvents(got, want) {
		t.Error(got)
	}
}
