package stanza

import (
	"math"
	"math/rand"
	"reflect"
	"slices"
	"strings"
	"sync"
	"testing"

	"wharf/api"
	"wharf/glyph"
	"wharf/jid"
	"wharf/scan"
	"wharf/tag"
)

// P9.1: each Kind has its own Types, and no other number is a Kind.
func TestCheckTypes(t *testing.T) {
	all := strings.Split("|unavailable|subscribe|subscribed|unsubscribe|unsubscribed|probe|error|chat|normal|headline|get|set|result"+
		"| |Error|error |errors|invisible|groupchat|unsubscribe subscribed|SUBSCRIBE|\x00|\xff|none|available", "|")
	for _, kind := range []int{1, 2, 3} {
		for _, typ := range all {
			lookAtCheck(t, plain(kind, typ), oneOf(typ, typeWords[kind]) && !strings.Contains(typ, " "))
		}
	}
	for _, kind := range []int{0, -1, -2, -3, 4, 5, 256, 257, 1<<32 + 1, 1<<32 + 2, 1<<32 + 3, math.MinInt, math.MinInt + 1, math.MaxInt} {
		for _, typ := range all {
			s := plain(kind, typ)
			if Check(s) != api.ErrStanza {
				t.Fatalf("%v may be", s)
			}
		}
	}
	if Check(api.Stanza{}) != api.ErrStanza {
		t.Fatal("the zero stanza may be")
	}
}

// P9.1: both addresses, of all Kinds.
func TestCheckAddresses(t *testing.T) {
	good := []api.Jid{ann, bob, {Node: "a", Domain: "b"}, {Domain: "b", Resource: " @/'<"}, {Node: strings.Repeat("n", 1023), Domain: "b"}}
	bad := []api.Jid{{}, {Node: "a"}, {Resource: "c"}, {Node: "A", Domain: "b"}, {Domain: "B"}, {Domain: "b."}, {Node: "a@", Domain: "b"}, {Domain: "b", Resource: "\t"}, {Domain: "\xff"},
		{Node: strings.Repeat("n", 1024), Domain: "b"}}
	everyPlain(func(s api.Stanza) {
		for _, j := range good {
			one, two := s, s
			one.From, two.To = j, j
			lookAtCheck(t, one, true)
			lookAtCheck(t, two, true)
		}
		for _, j := range bad {
			one, two := s, s
			one.From, two.To = j, j
			lookAtCheck(t, one, false)
			lookAtCheck(t, two, false)
		}
	})
}

// P9.1: an Id is a text, of 256 bytes at most, and an iq has one.
func TestCheckIds(t *testing.T) {
	everyPlain(func(s api.Stanza) {
		for _, id := range []string{"1", " ", "\t", "'<&>\"", "\u00e9", strings.Repeat("i", 255), strings.Repeat("i", 256), strings.Repeat("\u00e9", 128), strings.Repeat("&", 256)} {
			s.Id = id
			lookAtCheck(t, s, true)
		}
		for _, id := range []string{strings.Repeat("i", 257), strings.Repeat("\u00e9", 128) + "i", strings.Repeat("i", 1000), "\x00", "1\x01", "\xff", "\xc3", "\xef\xbf\xbf", "\xed\xa0\x80"} {
			s.Id = id
			lookAtCheck(t, s, false)
		}
		s.Id = ""
		lookAtCheck(t, s, s.Kind != api.StIq)
	})
}

// P9.1: a Show is one of four, and only of a presence that tells that somebody is there.
func TestCheckShows(t *testing.T) {
	everyPlain(func(s api.Stanza) {
		for _, show := range strings.Split("away chat dnd xa", " ") {
			s.Show = show
			lookAtCheck(t, s, s.Kind == api.StPresence && s.Type == "")
		}
		for _, show := range []string{" ", "Away", "away ", " away", "awa", "awayy", "online", "x", "a", "away chat", "\x00", "\xff", "away\n"} {
			s.Show = show
			lookAtCheck(t, s, false)
		}
	})
}

// P9.1: a Status only of a presence, a Body only of a message, of whatever Type, and of MaxBody bytes at most.
func TestCheckStatusAndBody(t *testing.T) {
	everyPlain(func(s api.Stanza) {
		look := func(text string, may bool) {
			one, two := s, s
			one.Status, two.Body = text, text
			lookAtCheck(t, one, may && s.Kind == api.StPresence)
			lookAtCheck(t, two, may && s.Kind == api.StMessage)
		}
		for _, text := range []string{"s", " ", "\t\n\r", "<&>'\"", "\u00e9\u20ac\U0001f600", strings.Repeat("s", 4095), strings.Repeat("s", 4096), strings.Repeat("\u00e9", 2048)} {
			look(text, true)
		}
		for _, text := range []string{strings.Repeat("s", 4097), strings.Repeat("\u00e9", 2048) + "s", strings.Repeat("s", 20000), "\x00", "s\x00", "\xff", "\xc3", "\xef\xbf\xbe"} {
			look(text, false)
		}
	})
}

// P9.1: the eighteen conditions, only of errors, and of each error.
func TestCheckConditions(t *testing.T) {
	words := strings.Split(condWords, " ")
	if len(words) != 18 {
		t.Fatal(words)
	}
	everyPlain(func(s api.Stanza) {
		for _, cond := range words {
			s.Cond = cond
			lookAtCheck(t, s, s.Type == "error")
			for _, near := range []string{cond + "s", " " + cond, cond[1:], strings.ToUpper(cond), strings.ReplaceAll(cond, "-", "_") + " "} {
				s.Cond = near
				lookAtCheck(t, s, false)
			}
		}
		for _, cond := range []string{"gone", "redirect", "text", "payment-required", "error", "cancel", "auth", " ", "\x00", "\xff"} {
			s.Cond = cond
			lookAtCheck(t, s, false)
		}
		s.Cond = ""
		lookAtCheck(t, s, s.Type != "error")
	})
}

// P9.1: how many elements a Load has.
func TestCheckHowMany(t *testing.T) {
	everyPlain(func(s api.Stanza) {
		least, most := 0, 4
		switch s.Type {
		case "error":
			most = 0
		case "result":
			most = 1
		case "get", "set":
			least, most = 1, 1
		}
		for n := range 8 {
			s.Load = slices.Repeat([]api.Elem{elem("q", "query")}, n)
			lookAtCheck(t, s, least <= n && n <= most)
		}
		s.Load = make([]api.Elem, 1<<16)
		lookAtCheck(t, s, false)
	})
}

// P9.1: which elements a Load has, at its front and behind others.
func TestCheckLoad(t *testing.T) {
	good := []api.Elem{elem("q", "query"), elem(space, "x"), elem(space, "Show"), elem(space, "statuses"), elem(space, "presence"), elem(errorsSpace, "conflict"), text("a", "b", "<"),
		elem("a", "b", elem(space, "body")), elem(space, "x", elem(space, "error"))}
	bad := []api.Elem{{}, elem("", "query"), elem("q", ""), elem("q", "1"), elem("q\x00", "query"), text("q", "query", "\xff"), elem("q", "query", elem("q", "1")), elem(strings.Repeat("q", 257), "query")}
	for _, name := range strings.Split(ownWords, " ") {
		good = append(good, elem("q", name), elem(space+"s", name), elem(api.SpStream, name), elem(space, name+"s"))
		bad = append(bad, elem(space, name), text(space, name, "away"), elem(space, name, elem("q", "query")))
	}
	for _, s := range []api.Stanza{plain(api.StPresence, ""), plain(api.StPresence, "probe"), plain(api.StMessage, "chat"), plain(api.StIq, "get"), plain(api.StIq, "set"), plain(api.StIq, "result")} {
		look := func(e api.Elem, may bool) {
			s.Load = []api.Elem{e}
			lookAtCheck(t, s, may)
			if s.Kind != api.StIq {
				s.Load = []api.Elem{elem("q", "query"), elem("q", "query"), elem("q", "query"), e}
				lookAtCheck(t, s, may)
			}
		}
		for _, e := range good {
			look(e, true)
		}
		for _, e := range bad {
			look(e, false)
		}
	}
}

// deep lays n elements within one another.
func deep(n int) api.Elem {
	e := elem("q", "k")
	for range n - 1 {
		e = elem("q", "k", e)
	}
	return e
}

// P9.1: what is written of a stanza may be as deep and as long as an element may, to the byte.
func TestCheckWhatIsWritten(t *testing.T) {
	for _, s := range []api.Stanza{plain(api.StPresence, ""), plain(api.StMessage, ""), plain(api.StIq, "get"), plain(api.StIq, "result")} {
		for n := 1; n < 20; n++ {
			s.Load = []api.Elem{deep(n)}
			lookAtCheck(t, s, n < api.MaxDepth)
		}
		s.Load = []api.Elem{text("q", "k", "x")}
		room := api.MaxStanza - len(tag.Put(writeOf(s), "")) + 1
		for add := -2; add < 3; add++ {
			s.Load = []api.Elem{text("q", "k", strings.Repeat("x", room+add))}
			lookAtCheck(t, s, add <= 0)
		}
	}
	for _, s := range []api.Stanza{plain(api.StPresence, ""), plain(api.StPresence, "error"), plain(api.StMessage, "chat"), plain(api.StMessage, "error")} {
		long := func(n int) api.Stanza {
			if s.Kind == api.StPresence {
				s.Status = strings.Repeat("'", n)
			} else {
				s.Body = strings.Repeat("'", n)
			}
			return s
		}
		most := 1 + (api.MaxStanza-len(tag.Put(writeOf(long(1)), "")))/len("&apos;")
		if most > 2800 {
			t.Fatal(most)
		}
		lookAtCheck(t, long(most), true)
		lookAtCheck(t, long(most+1), false)
		lookAtCheck(t, long(api.MaxBody), false)
	}
}

// P9.1, P9.2, P9.6: all that comes of few values a field, against the promises' words.
func TestEveryStanza(t *testing.T) {
	good := 0
	everyStanza(func(s api.Stanza) {
		err := checkOf(s)
		if Check(s) != err {
			t.Fatalf("Check(%v): %d, not %d", s, Check(s), err)
		}
		e := Write(s)
		if !tag.Same(e, writeOf(s)) {
			t.Fatalf("Write(%v): %v, not %v", s, e, writeOf(s))
		}
		if err == api.OK {
			good++
			lookAtRead(t, e, s, api.OK)
		}
	})
	if good < 100 {
		t.Fatalf("only %d may be", good)
	}
}

// P9.2: the order of attributes and kids, and what is left out.
func TestWrite(t *testing.T) {
	q := text("q", "query", "t")
	for _, c := range []struct {
		s    api.Stanza
		want string
	}{
		{api.Stanza{Kind: 1, From: ann, To: bob, Show: "away", Status: "x"}, "<presence from='a@b/c' to='d'><show>away</show><status>x</status></presence>"},
		{api.Stanza{Kind: 1, From: ann, To: bob}, "<presence from='a@b/c' to='d'/>"},
		{api.Stanza{Kind: 1, From: bob, To: ann, Id: "'", Type: "subscribe", Load: []api.Elem{q, elem("", "r")}}, "<presence from='d' to='a@b/c' id='&apos;' type='subscribe'><query xmlns='q'>t</query><r xmlns=''/></presence>"},
		{api.Stanza{Kind: 2, From: ann, To: bob, Type: "chat", Body: " <\n"}, "<message from='a@b/c' to='d' type='chat'><body> &lt;&#xA;</body></message>"},
		{api.Stanza{Kind: 2, From: ann, To: bob, Id: "7", Type: "error", Body: "b", Cond: "not-allowed"}, "<message from='a@b/c' to='d' id='7' type='error'><body>b</body><error type='cancel'><not-allowed xmlns='urn:ietf:params:xml:ns:xmpp-stanzas'/></error></message>"},
		{api.Stanza{Kind: 3, From: ann, To: bob, Id: "1", Type: "set", Load: []api.Elem{q}}, "<iq from='a@b/c' to='d' id='1' type='set'><query xmlns='q'>t</query></iq>"},
		{api.Stanza{Kind: 3, From: ann, To: bob, Id: "1", Type: "result"}, "<iq from='a@b/c' to='d' id='1' type='result'/>"},
		{api.Stanza{Kind: 3}, "<iq/>"},
		{api.Stanza{Kind: 2, From: api.Jid{Node: "A"}, To: api.Jid{Resource: "r"}, Show: "s", Status: "\t", Body: "b", Type: "t", Load: []api.Elem{q, q}, Cond: "1"},
			"<message from='A@' to='/r' type='t'><show>s</show><status>&#x9;</status><body>b</body><query xmlns='q'>t</query><query xmlns='q'>t</query><error type='cancel'><1 xmlns='urn:ietf:params:xml:ns:xmpp-stanzas'/></error></message>"},
	} {
		if got := tag.Put(Write(c.s), space); got != c.want || !tag.Same(Write(c.s), writeOf(c.s)) {
			t.Fatalf("Write(%v): %s, not %s", c.s, got, c.want)
		}
	}
	for _, kind := range []int{0, -1, 4, math.MinInt, math.MaxInt} {
		s := plain(1, "")
		s.Kind = kind
		if e := Write(s); e.Space != space || e.Name != "" || tag.Check(e) != api.ErrTag {
			t.Fatalf("%d is written as %v", kind, e)
		}
	}
}

// P9.5: the type of each error.
func TestTypesOfErrors(t *testing.T) {
	want := map[string]int{"auth": 4, "modify": 3, "wait": 4, "cancel": 7}
	for _, cond := range strings.Split(condWords, " ") {
		s := plain(api.StMessage, "error")
		s.Cond = cond
		e, ok := tag.Kid(Write(s), space, "error")
		kind := tag.Attr(e, "type")
		if !ok || kind != typeOfError(cond) || !tag.Same(e, errorElem(kind, elem(errorsSpace, cond))) {
			t.Fatalf("%s: %v", cond, e)
		}
		want[kind]--
	}
	for kind, n := range want {
		if n != 0 {
			t.Fatalf("%s: %d too few", kind, n)
		}
	}
	for _, cond := range []string{"gone", "x", "Forbidden", "auth"} {
		if e, _ := tag.Kid(Write(api.Stanza{Kind: 1, Cond: cond}), space, "error"); tag.Attr(e, "type") != "cancel" {
			t.Fatalf("%s: %v", cond, e)
		}
	}
}

// told is an element with these attributes, two by two, and kids.
func told(name string, attrs []string, kids ...api.Elem) api.Elem {
	e := elem(space, name, kids...)
	for i := 0; i < len(attrs); i += 2 {
		e.Attrs = append(e.Attrs, api.Attr{Name: attrs[i], Value: attrs[i+1]})
	}
	return e
}

func at(more ...string) []string {
	return append([]string{"from", "a@b/c", "to", "d"}, more...)
}

// P9.3: the space, the name, and the attributes.
func TestReadAttributes(t *testing.T) {
	s := api.Stanza{Kind: 1, From: ann, To: bob}
	withId := s
	withId.Id, withId.Type = "1", "probe"
	good := map[*api.Stanza][][]string{
		&s:      {at(), {"to", "d", "from", "a@b/c"}, {"from", "A@B./c", "to", "D."}, at("xml:lang", "de"), at("xml:lang", "\xff"), at("id", "", "type", ""), at("from", "\xff", "to", ""), at("xml:lang", "a", "xml:lang", "b")},
		&withId: {at("id", "1", "type", "probe"), {"type", "probe", "id", "1", "to", "d", "xml:lang", "", "from", "a@b/c"}, at("type", "probe", "type", "error", "id", "1", "id", "\xff")},
	}
	for want, lists := range good {
		for _, attrs := range lists {
			e := told("presence", attrs)
			e.Text = "\xff"
			lookAtRead(t, e, *want, api.OK)
		}
	}
	for _, attrs := range [][]string{nil, {"from", "a@b/c"}, {"to", "d"}, {"from", "", "to", "d"}, {"from", "a@b/c", "to", ""}, {"from", "@b", "to", "d"}, {"from", "a@b/", "to", "d"}, {"from", "a@b/c", "to", "d e"},
		{"from", "a@b/c", "to", "\xff"}, {"From", "a@b/c", "to", "d"}, {"from", "", "from", "a@b/c", "to", "d"}, at("y", "z"), at("", ""), at("lang", "de"), at("xmlns", space), at("Type", ""), at("from ", ""), at("xml:base", "b"), at("show", "away"),
		at("id", strings.Repeat("i", 257)), at("id", "\x00"), at("type", "get"), at("type", "Probe")} {
		lookAtRead(t, told("presence", attrs), api.Stanza{}, api.ErrStanza)
	}
	for _, at := range [][2]string{{space, "presences"}, {space, "Presence"}, {space, ""}, {space, "iqs"}, {space, "handshake"}, {space, "error"}, {"", "presence"}, {"jabber:client", "presence"}, {space + " ", "presence"}, {api.SpStream, "presence"}} {
		e := told("", []string{"from", "a@b/c", "to", "d"})
		e.Space, e.Name = at[0], at[1]
		lookAtRead(t, e, api.Stanza{}, api.ErrStanza)
	}
	for kind, name := range []string{"", "presence", "message"} {
		if kind > 0 {
			lookAtRead(t, told(name, at()), api.Stanza{Kind: kind, From: ann, To: bob}, api.OK)
		}
	}
	lookAtRead(t, told("iq", at("id", "1", "type", "result")), plain(3, "result"), api.OK)
}

// P9.3: what the kids tell, the first one of each name, and of which Kinds and Types.
func TestReadKids(t *testing.T) {
	q := elem("q", "query")
	kids := []api.Elem{
		q, text("q", "show", "x"), text(space, "show", "\t away\r\n "), text(space, "status", " s "), text(space, "body", " b "), text(space, "priority", "\xff"), text(space, "thread", "t"), text(space, "subject", "u"),
		errorElem("wait", elem(errorsSpace, "text"), elem("q", "forbidden"), elem(errorsSpace, "not-allowed"), elem(errorsSpace, "conflict")),
		text(space, "show", "xa"), text(space, "status", "2"), text(space, "body", "2"), errorElem("auth", elem(errorsSpace, "bad-request")), elem(space, "x"), elem(errorsSpace, "gone"),
	}
	load := []api.Elem{q, text("q", "show", "x"), elem(space, "x"), elem(errorsSpace, "gone")}
	everyPlain(func(s api.Stanza) {
		want := s
		want.Load = load
		if s.Kind == api.StPresence {
			want.Status = " s "
		}
		if s.Kind == api.StPresence && s.Type == "" {
			want.Show = "away"
		}
		if s.Kind == api.StMessage {
			want.Body = " b "
		}
		if s.Type == "error" {
			want.Cond, want.Load = "not-allowed", nil
		}
		err := api.OK
		if s.Kind == api.StIq && s.Type != "error" { // four are too many
			want, err = api.Stanza{}, api.ErrStanza
		}
		attrs := at("id", "1")
		if s.Type != "" {
			attrs = at("id", "1", "type", s.Type)
		}
		e := told([]string{"", "presence", "message", "iq"}[s.Kind], attrs, kids...)
		lookAtRead(t, e, want, err)
		if err != api.OK {
			e.Kids = slices.Concat(kids[1:1], kids[2:13], []api.Elem{q})
			s.Load = []api.Elem{q}
			lookAtRead(t, e, s, api.OK)
		}
	})
}

// P9.3: a Show that is none; texts that are none; a Load that may not be.
func TestReadWrongKids(t *testing.T) {
	for _, show := range []string{"", " ", "\t\r\n"} {
		lookAtRead(t, told("presence", at(), text(space, "show", show), text(space, "show", "dnd")), plainOf("presence"), api.OK)
	}
	lookAtRead(t, told("presence", at(), elem("q", "k", text(space, "show", "dnd"))), api.Stanza{Kind: 1, From: ann, To: bob, Load: []api.Elem{elem("q", "k", text(space, "show", "dnd"))}}, api.OK)
	for name, kids := range map[string][]api.Elem{
		"presence": {text(space, "show", "online"), text(space, "show", "a way"), text(space, "show", "\u00a0away"), text(space, "show", "\x0baway"), text(space, "status", "\x00"), text(space, "status", strings.Repeat("s", 4097)), elem("q", "1"), elem("", "k"), deep(16)},
		"message":  {text(space, "body", "\xff"), text(space, "body", strings.Repeat("b", 4097)), elem("q", "k", api.Elem{}), text(space, "x", strings.Repeat("x", 17000))},
	} {
		for _, k := range kids {
			lookAtRead(t, told(name, at(), k), api.Stanza{}, api.ErrStanza)
			lookAtRead(t, told(name, at(), elem("q", "k"), k), api.Stanza{}, api.ErrStanza)
		}
	}
	q := elem("q", "query")
	lookAtRead(t, told("presence", at(), q, q, q, q, q), api.Stanza{}, api.ErrStanza)
	lookAtRead(t, told("iq", at("id", "1", "type", "get")), api.Stanza{}, api.ErrStanza)
	lookAtRead(t, told("iq", at("id", "1", "type", "set"), text(space, "body", "b")), api.Stanza{}, api.ErrStanza)
	lookAtRead(t, told("iq", at("id", "1", "type", "result"), q, q), api.Stanza{}, api.ErrStanza)
	lookAtRead(t, told("iq", at("type", "get"), q), api.Stanza{}, api.ErrStanza)
	lookAtRead(t, told("iq", at("id", "1"), q), api.Stanza{}, api.ErrStanza)
	lookAtRead(t, api.Elem{}, api.Stanza{}, api.ErrStanza)
}

func plainOf(name string) api.Stanza {
	return api.Stanza{Kind: slices.Index([]string{"", "presence", "message", "iq"}, name), From: ann, To: bob}
}

// P9.3: the condition of an error.
func TestReadConditions(t *testing.T) {
	look := func(cond string, kids ...api.Elem) {
		t.Helper()
		for kind, name := range []string{"", "presence", "message", "iq"} {
			if kind > 0 {
				lookAtRead(t, told(name, at("id", "1", "type", "error"), kids...), api.Stanza{Kind: kind, Type: "error", From: ann, To: bob, Id: "1", Cond: cond}, api.OK)
			}
		}
	}
	for _, cond := range strings.Split(condWords, " ") {
		look(cond, errorElem("cancel", elem(errorsSpace, cond)))
		look(cond, elem("q", "query"), elem("q", "error", elem(errorsSpace, "gone")), errorElem("", text(errorsSpace, "gone", "x"), text(errorsSpace, cond, "\xff")))
		look("undefined-condition", errorElem("wait", elem(space, cond), elem("", cond), elem(errorsSpace+"s", cond), elem("urn:ietf:params:xml:ns:xmpp-streams", cond)))
		look("undefined-condition", errorElem("wait", elem(errorsSpace, "gone", elem(errorsSpace, cond))), errorElem("wait", elem(errorsSpace, cond)))
		look("undefined-condition", elem(errorsSpace, cond), elem("q", "error", elem(errorsSpace, cond)))
	}
	look("undefined-condition")
	look("undefined-condition", errorElem("cancel"))
	look("undefined-condition", errorElem("cancel", elem(errorsSpace, ""), elem(errorsSpace, "Conflict"), elem(errorsSpace, "text")))
	look("conflict", errorElem("cancel", elem(errorsSpace, "conflict"), elem(errorsSpace, "forbidden")))
	look("conflict", slices.Repeat([]api.Elem{errorElem("x", elem(errorsSpace, "conflict"))}, 9)...)
}

// P9.3: elements that were thrown together, against the promise's words.
func TestReadAtRandom(t *testing.T) {
	r := rand.New(rand.NewSource(9))
	attrs := [][2]string{{"from", "a@b/c"}, {"from", "A@b."}, {"from", "@"}, {"to", "d"}, {"to", "a@aim.b"}, {"id", "1"}, {"id", ""}, {"type", ""}, {"type", "error"}, {"type", "get"}, {"type", "set"}, {"type", "result"}, {"type", "chat"},
		{"type", "unavailable"}, {"type", "subscribe"}, {"type", "x"}, {"xml:lang", "en"}, {"y", "z"}}
	kids := []api.Elem{elem("q", "query"), elem("q", "query"), elem("q", "1"), elem(space, "x"), elem(space, "priority"), elem(space, "thread"), errorElem("wait", elem(errorsSpace, "conflict")), errorElem("wait", elem(errorsSpace, "gone"), elem(errorsSpace, "forbidden")), errorElem("auth")}
	for _, s := range []string{"", "away", " xa ", "online", "\x00"} {
		kids = append(kids, text(space, "show", s), text(space, "status", s), text(space, "body", s), text("q", "show", s))
	}
	good := map[string]int{}
	for range 200000 {
		e := elem([]string{space, space, space, space, space, space, space, "q"}[r.Intn(8)], []string{"presence", "message", "iq", "iq", "x"}[r.Intn(5)])
		e.Attrs = []api.Attr{{Name: "from", Value: "a@b/c"}, {Name: "to", Value: "d"}, {Name: "id", Value: "1"}}[:3-r.Intn(6)/5]
		for range r.Intn(4) {
			a := attrs[r.Intn(len(attrs))]
			e.Attrs = slices.Insert(e.Attrs, r.Intn(len(e.Attrs)+1), api.Attr{Name: a[0], Value: a[1]})
		}
		for range r.Intn(5) {
			e.Kids = append(e.Kids, kids[r.Intn(len(kids))])
		}
		want, err := readOf(e)
		lookAtRead(t, e, want, err)
		if err == api.OK {
			good[e.Name+want.Type]++
			lookAtRead(t, Write(want), want, api.OK)
		}
	}
	for _, what := range []string{"presence", "presenceerror", "message", "messagechat", "messageerror", "iqget", "iqset", "iqresult", "iqerror"} {
		if good[what] < 100 {
			t.Fatalf("only %d %s could be read", good[what], what)
		}
	}
}

// P9.4: errors, of all that comes of few values a field, and of each Kind and Type.
func TestError(t *testing.T) {
	look := func(s api.Stanza, cond string) {
		t.Helper()
		want, may := errorOf(s, cond)
		got, ok := Error(s, cond)
		lookAtAnswer(t, s, got, want, ok, may)
	}
	everyStanza(func(s api.Stanza) {
		for _, cond := range []string{"item-not-found", "", "gone"} {
			look(s, cond)
		}
	})
	everyPlain(func(s api.Stanza) {
		for _, cond := range strings.Split(condWords, " ") {
			look(s, cond)
			if _, ok := Error(s, cond); ok == (s.Type == "error" || s.Type == "result") {
				t.Fatalf("Error(%v, %s): %v", s, cond, ok)
			}
		}
	})
	for _, s := range []api.Stanza{{}, {Kind: 1}, {Kind: 1, From: ann}, {Kind: 3, From: ann, To: bob}, {Kind: 2, From: ann, To: api.Jid{Domain: "B"}}, {Kind: 4, From: ann, To: bob}, {Kind: -1, From: ann, To: bob}, {Kind: 2, From: ann, To: bob, Id: "\x00"},
		{Kind: 2, From: ann, To: bob, Id: strings.Repeat("i", 257)}, {Kind: 1, Type: "error", From: ann, To: bob}} {
		if got, ok := Error(s, "conflict"); ok || !reflect.DeepEqual(got, api.Stanza{}) {
			t.Fatalf("Error(%v): %v", s, got)
		}
	}
	odd := api.Stanza{Kind: 2, Type: "result", From: ann, To: bob, Id: strings.Repeat("i", 256), Show: "x", Body: "\xff", Status: "s", Cond: "gone", Load: make([]api.Elem, 9)}
	got, ok := Error(odd, "conflict") // whether it may be itself is not asked
	lookAtAnswer(t, odd, got, api.Stanza{Kind: 2, Type: "error", From: bob, To: ann, Id: odd.Id, Cond: "conflict"}, ok, true)
}

// P9.4: results, likewise.
func TestResult(t *testing.T) {
	loads := [][]api.Elem{nil, {}, {elem("q", "query")}, {text(space, "x", "<")}, {text(space, "body", "b")}, {elem("q", "")}, {deep(15)}, {deep(16)}, {elem("q", "query"), elem("q", "query")}}
	look := func(s api.Stanza) {
		t.Helper()
		for _, load := range loads {
			want, may := resultOf(s, load...)
			got, ok := Result(s, load...)
			lookAtAnswer(t, s, got, want, ok, may)
		}
	}
	everyStanza(look)
	everyPlain(func(s api.Stanza) {
		look(s)
		got, ok := Result(s)
		if ok != (s.Type == "get" || s.Type == "set") {
			t.Fatalf("Result(%v): %v, %v", s, got, ok)
		}
	})
	for _, s := range []api.Stanza{{}, {Kind: 3}, {Kind: 3, Type: "get"}, {Kind: 3, Type: "get", From: ann, To: bob}, {Kind: 3, Type: "set", From: ann, Id: "1"}, {Kind: 3, Type: "Get", From: ann, To: bob, Id: "1"}, {Kind: 2, Type: "get", From: ann, To: bob, Id: "1"},
		{Kind: 3, From: ann, To: bob, Id: "1"}, {Kind: 0, Type: "get", From: ann, To: bob, Id: "1"}, {Kind: 3, Type: "get", From: ann, To: bob, Id: "\xff"}} {
		if got, ok := Result(s, elem("q", "query")); ok || !reflect.DeepEqual(got, api.Stanza{}) {
			t.Fatalf("Result(%v): %v", s, got)
		}
	}
}

// P9.4: Same, with one field after the other changed.
func TestSame(t *testing.T) {
	build := func() api.Stanza {
		return api.Stanza{Kind: 1, Type: "a", From: ann, To: bob, Id: "i", Show: "s", Status: "t", Body: "b", Cond: "c",
			Load: []api.Elem{{Space: "p", Name: "q", Text: "r", Attrs: []api.Attr{{Name: "n", Value: "v"}}, Kids: []api.Elem{elem("k", "l")}}, elem("m", "n")}}
	}
	changes := []func(s *api.Stanza){
		func(s *api.Stanza) { s.Kind = 2 },
		func(s *api.Stanza) { s.Type = "A" },
		func(s *api.Stanza) { s.From = bob },
		func(s *api.Stanza) { s.From.Resource = "C" },
		func(s *api.Stanza) { s.To.Node = "a" },
		func(s *api.Stanza) { s.To, s.From = s.From, s.To },
		func(s *api.Stanza) { s.Id = "" },
		func(s *api.Stanza) { s.Show = "s " },
		func(s *api.Stanza) { s.Status = "" },
		func(s *api.Stanza) { s.Status, s.Body = s.Body, s.Status },
		func(s *api.Stanza) { s.Body = "B" },
		func(s *api.Stanza) { s.Cond = "d" },
		func(s *api.Stanza) { s.Load = nil },
		func(s *api.Stanza) { s.Load = s.Load[:1] },
		func(s *api.Stanza) { s.Load = append(s.Load, elem("m", "n")) },
		func(s *api.Stanza) { s.Load[0], s.Load[1] = s.Load[1], s.Load[0] },
		func(s *api.Stanza) { s.Load[0].Text = "" },
		func(s *api.Stanza) { s.Load[0].Attrs[0].Value = "w" },
		func(s *api.Stanza) { s.Load[0].Kids[0].Name = "k" },
		func(s *api.Stanza) { s.Load[1].Space = "n" },
	}
	if !Same(build(), build()) || !Same(api.Stanza{}, api.Stanza{Load: []api.Elem{}}) || !Same(api.Stanza{Load: []api.Elem{}}, api.Stanza{}) {
		t.Fatal("the same are not the same")
	}
	for i, change := range changes {
		for j, other := range changes {
			a, b := build(), build()
			change(&a)
			if Same(a, b) || Same(b, a) || !Same(a, a) {
				t.Fatalf("change %d", i)
			}
			other(&b)
			if Same(a, b) != (i == j) {
				t.Fatalf("changes %d and %d", i, j)
			}
		}
	}
}

// texts have all that a writer and a reader may stumble over.
func texts() []string {
	list := []string{"", "s", " s ", "\t\r\n", "<&>'\"", "]]>", "&amp;", "&#x9;", "\u00e9\u20ac\U0001f600\U0010ffff", "\x7f\u0085\u2028\ufffd", strings.Repeat("\u20ac", 1365)}
	for c := range rune(0x100) {
		if s := string(c); glyph.Check(s) == api.OK {
			list = append(list, s)
		}
	}
	return list
}

// P9.6: what may be is read again as it was, also when it has gone over a stream.
func TestThereAndBack(t *testing.T) {
	header := "<s:stream xmlns='jabber:component:accept' xmlns:s='http://etherx.jabber.org/streams'>"
	look := func(s api.Stanza) {
		t.Helper()
		if Check(s) != api.OK {
			t.Fatalf("%s may not be", cut(s))
		}
		lookAtRead(t, Write(s), s, api.OK)
		evs := scan.New().Feed(header + tag.Put(Write(s), space))
		if len(evs) != 2 || evs[1].Kind != api.EvStanza {
			t.Fatalf("%s came as %s", cut(s), cut(evs))
		}
		lookAtRead(t, evs[1].Elem, s, api.OK)
	}
	everyPlain(func(s api.Stanza) {
		look(s)
		for _, x := range texts() {
			a := s
			a.Id = glyph.Head(x, 256)
			if a.Id == "" && a.Kind == api.StIq {
				continue
			}
			if s.Kind == api.StPresence {
				a.Status = x
			}
			if s.Kind == api.StMessage {
				a.Body = x
			}
			if s.Type != "error" {
				x := glyph.Head(x, 1000)
				a.Load = []api.Elem{{Space: space, Name: "x", Text: x, Attrs: []api.Attr{{Name: "xml:lang", Value: x}}, Kids: []api.Elem{text("q"+x, "show", x)}}}
				a.Load[0].Kids[0].Space = glyph.Head("q"+x, 256)
			}
			if r := (api.Jid{Domain: "b", Resource: x}); jid.Check(r) == api.OK {
				a.From, a.To = r, api.Jid{Node: "n", Domain: "b", Resource: x}
			}
			look(a)
		}
	})
}

// P9.6: an answer may be, and goes back where it came from; nobody answers it.
func TestAnswersGoBack(t *testing.T) {
	look := func(s, a api.Stanza) {
		t.Helper()
		if Check(a) != api.OK || a.Kind != s.Kind || a.From != s.To || a.To != s.From || a.Id != s.Id {
			t.Fatalf("%v is answered with %v", s, a)
		}
		lookAtRead(t, Write(a), a, api.OK)
		if _, ok := Error(a, "conflict"); ok {
			t.Fatalf("%v is answered", a)
		}
		if _, ok := Result(a); ok {
			t.Fatalf("%v is answered", a)
		}
	}
	n := 0
	everyStanza(func(s api.Stanza) {
		if a, ok := Error(s, "conflict"); ok {
			look(s, a)
			n++
		}
		if a, ok := Result(s, elem("q", "query")); ok {
			look(s, a)
			n++
		}
	})
	if n < 1000 {
		t.Fatalf("only %d answers", n)
	}
}

// Whatever is handed in, each call ends and none panics.
func TestStrangeArguments(t *testing.T) {
	whole := api.Elem{Space: space, Name: "presence", Attrs: []api.Attr{{Name: "from", Value: "a@b/c"}, {Name: "to", Value: "d"}}}
	wide, steep := whole, whole
	wide.Kids = slices.Repeat([]api.Elem{elem("q", "k")}, 1<<18)
	steep.Kids = []api.Elem{deep(1 << 14)}
	for _, e := range []api.Elem{wide, steep} {
		lookAtRead(t, e, api.Stanza{}, api.ErrStanza)
		s := plain(1, "")
		s.Load = e.Kids
		lookAtCheck(t, s, false)
		if got := Write(s); !tag.Same(got, writeOf(s)) || !Same(s, s) {
			t.Fatal("another element")
		}
		if _, ok := Result(plain(3, "get"), e.Kids...); ok {
			t.Fatal("too much was answered")
		}
	}
	folded := elem("q", "k") // each holds the one below it twice: too many to be gone through
	for range 60 {
		folded = elem("q", "k", folded, folded)
	}
	wide.Kids = []api.Elem{folded}
	lookAtRead(t, wide, api.Stanza{}, api.ErrStanza)
	if _, ok := Result(plain(3, "get"), folded); ok || Check(api.Stanza{Kind: 1, From: ann, To: bob, Load: wide.Kids}) != api.ErrStanza {
		t.Fatal("too much may be")
	}
}

// roomy is an element whose lists have spare room.
func roomy() api.Elem {
	attrs := append(make([]api.Attr, 0, 8), api.Attr{Name: "c", Value: "d"})
	kids := append(make([]api.Elem, 0, 8), elem("k", "l", elem("p", "q")))
	return api.Elem{Space: "a", Name: "b", Attrs: attrs, Kids: kids}
}

// spoil changes all that it finds in a list, and in its spare room.
func spoil(l []api.Elem) {
	l = l[:cap(l)]
	for i := range l {
		attrs := l[i].Attrs[:cap(l[i].Attrs)]
		for k := range attrs {
			attrs[k] = api.Attr{Name: "!", Value: "!"}
		}
		spoil(l[i].Kids)
		l[i].Name = "!"
	}
}

// What is answered shares nothing with what was handed in, or with another answer, spare room neither.
func TestAnswersAreApart(t *testing.T) {
	build := func() []api.Elem { return append(make([]api.Elem, 0, 4), roomy()) }
	calls := []func(l []api.Elem) []api.Elem{
		func(l []api.Elem) []api.Elem { return Write(api.Stanza{Kind: 1, Load: l}).Kids },
		func(l []api.Elem) []api.Elem { s, _ := Read(told("presence", at(), l...)); return s.Load },
		func(l []api.Elem) []api.Elem {
			e := told("iq", at("id", "1", "type", "get"))
			e.Kids = l
			s, _ := Read(e)
			return s.Load
		},
		func(l []api.Elem) []api.Elem { s, _ := Result(plain(3, "get"), l...); return s.Load },
		func(l []api.Elem) []api.Elem {
			Same(api.Stanza{Load: l}, api.Stanza{Load: l})
			Check(api.Stanza{Kind: 1, From: ann, To: bob, Load: l})
			Error(api.Stanza{Kind: 1, From: ann, To: bob, Load: l}, "conflict")
			return []api.Elem{roomy()}
		},
	}
	for i, call := range calls {
		l := build()
		one, two := call(l), call(l)
		if len(one) != 1 || !tag.Same(one[0], roomy()) || !tag.Same(l[0], roomy()) || !reflect.DeepEqual(l[:cap(l)], build()[:4]) {
			t.Fatalf("call %d: %v of %v", i, one, l)
		}
		spoil(one)
		if !tag.Same(l[0], roomy()) || !tag.Same(two[0], roomy()) || l[0].Attrs[:8][1] != (api.Attr{}) || l[0].Kids[:8][1].Name != "" || l[:4][1].Name != "" {
			t.Fatalf("call %d: an answer shares memory", i)
		}
		spoil(l)
		if !tag.Same(two[0], roomy()) {
			t.Fatalf("call %d: an answer shares memory with what was handed in", i)
		}
	}
}

// All are pure functions: the same every time, also at the same time.
func TestPure(t *testing.T) {
	s := plain(api.StIq, "get")
	e := told("message", at("type", "error"), errorElem("wait", elem(errorsSpace, "gone"), elem(errorsSpace, "conflict")))
	var all sync.WaitGroup
	for range 8 {
		all.Go(func() {
			for range 300 {
				read, err := Read(e)
				why, ok := Error(s, "forbidden")
				a, good := Result(s, roomy())
				if err != api.OK || read.Cond != "conflict" || !ok || !good || !Same(a, a) || Check(a) != api.OK ||
					tag.Put(Write(why), space) != "<iq from='d' to='a@b/c' id='1' type='error'><error type='auth'><forbidden xmlns='urn:ietf:params:xml:ns:xmpp-stanzas'/></error></iq>" {
					t.Error("another answer")
				}
			}
		})
	}
	all.Wait()
}

// The chapter's example.
func TestExamples(t *testing.T) {
	s := api.Stanza{Kind: api.StIq, Type: "get", From: api.Jid{Node: "a", Domain: "b", Resource: "c"}, To: api.Jid{Domain: "d"}, Id: "1", Load: []api.Elem{elem("q", "query")}}
	got, ok := Error(s, "item-not-found")
	want := api.Stanza{Kind: api.StIq, Type: "error", From: s.To, To: s.From, Id: "1", Cond: "item-not-found"}
	if !ok || !reflect.DeepEqual(got, want) {
		t.Fatalf("%v, %v", got, ok)
	}
}
