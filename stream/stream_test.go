package stream

import (
	"crypto/sha1"
	"encoding/hex"
	"math/rand"
	"reflect"
	"strings"
	"sync"
	"testing"

	"wharf/api"
	"wharf/jid"
	"wharf/scan"
	"wharf/tag"
)

// The words of P8.1, P8.2 and P8.4.
const (
	ending   = "</stream:stream>"
	headerOf = "<?xml version='1.0'?><stream:stream xmlns='jabber:component:accept' xmlns:stream='http://etherx.jabber.org/streams' to='"
)

func endingWith(cond string) string {
	if cond == "" {
		return ending
	}
	return "<stream:error><" + cond + " xmlns='urn:ietf:params:xml:ns:xmpp-streams'/></stream:error></stream:stream>"
}

func handshakeOf(id, secret string) string {
	sum := sha1.Sum([]byte(id + secret))
	return "<handshake>" + hex.EncodeToString(sum[:]) + "</handshake>"
}

var (
	phases  = []int{api.PhOff, api.PhHeader, api.PhShake, api.PhOpen, api.PhEnd}
	strange = []int{-1 << 63, -4, -3, -2, -1, 5, 6, 7, 255, 256, 257, 1 << 32, 1<<32 + 1, 1<<32 + 2, 1<<32 + 3, 1<<63 - 1}
)

func in(phase int) api.Stream {
	return api.Stream{Domain: "x.org", Secret: "s", Phase: phase}
}

func elem(space, name string) api.Elem {
	return api.Elem{Space: space, Name: name}
}

func stanza(e api.Elem) api.Event {
	return api.Event{Kind: api.EvStanza, Elem: e}
}

// open is the beginning of a stream that tells this id.
func open(id string) api.Event {
	return api.Event{Kind: api.EvOpen, Elem: tag.New(api.SpStream, "stream", "id", id)}
}

func wrong(err api.Errno) api.Event {
	return api.Event{Kind: api.EvWrong, Err: err}
}

var (
	shaken = stanza(elem(api.SpComponent, "handshake"))
	failed = stanza(api.Elem{Space: api.SpStream, Name: "error", Kids: []api.Elem{elem("urn:ietf:params:xml:ns:xmpp-streams", "conflict")}})
	closed = api.Event{Kind: api.EvClose}
)

func lookAtTake(t *testing.T, s api.Stream, e api.Event, phase int, said string, elems ...api.Elem) {
	t.Helper()
	want := s
	want.Phase = phase
	got, text, list := Take(s, e)
	if got != want || text != said {
		t.Fatalf("Take(%v, %v): %v, %q, not %v, %q", s, e, got, text, want, said)
	}
	if len(list) != len(elems) || len(list) > 0 && !reflect.DeepEqual(list, elems) {
		t.Fatalf("Take(%v, %v): %v, not %v", s, e, list, elems)
	}
}

func lookAtBegin(t *testing.T, domain, secret string, may bool) {
	t.Helper()
	s, said, err := Begin(domain, secret)
	want, text, no := api.Stream{}, "", api.ErrArg
	if may {
		want, text, no = api.Stream{Domain: domain, Secret: secret, Phase: api.PhHeader}, headerOf+domain+"'>", api.OK
	}
	if s != want || said != text || err != no {
		t.Fatalf("Begin(%.80q, %.80q): %v, %.300q, %d, not %v, %.300q, %d", domain, secret, s, said, err, want, text, no)
	}
}

// P8.1: ordinary domains and secrets, and each way in which one may not be.
func TestBegin(t *testing.T) {
	for _, domain := range []string{"x.org", "aim.b", "b", "1", "-", "a-b.c", "0.1.2", strings.Repeat("d", 1023), strings.Repeat("d.", 511) + "d"} {
		for _, secret := range []string{"s", " ", "'", "<&>\"", "\t\n\r", "\u00e9\u20ac\U0001f600", strings.Repeat("s", 5000)} {
			lookAtBegin(t, domain, secret, true)
		}
		for _, secret := range []string{"", "\x00", "s\x00", "s\x01", "\xff", "\xc3", "\xed\xa0\x80", "\xf4\x90\x80\x80", "s\xef\xbf\xbe"} {
			lookAtBegin(t, domain, secret, false)
		}
	}
	for _, domain := range []string{"", ".", "x.", ".x", "a..b", "X", "a_b", "a b", "a@b", "@b", "a/b", "b/", "a:1", "\u00e9", "\xff", "a'b", "a<b", "a&b",
		strings.Repeat("d", 1024), strings.Repeat("d.", 511) + "dd"} {
		lookAtBegin(t, domain, "s", false)
		lookAtBegin(t, domain, "", false)
		lookAtBegin(t, domain, "\xff", false)
	}
}

// P8.1: every byte in a domain and in a secret.
func TestBeginWithEveryByte(t *testing.T) {
	for c := range 256 {
		b := string([]byte{byte(c)})
		for _, domain := range []string{b, "a" + b + "c", b + "c", "a" + b} {
			lookAtBegin(t, domain, "s", jid.Check(api.Jid{Domain: domain}) == api.OK)
		}
		letter := 'a' <= c && c <= 'z' || '0' <= c && c <= '9' || c == '-'
		lookAtBegin(t, b, "s", letter)
		plain := c == '\t' || c == '\n' || c == '\r' || ' ' <= c && c <= 0x7f
		lookAtBegin(t, "x.org", b, plain)
		lookAtBegin(t, "x.org", "a"+b+"c", plain)
	}
}

// P8.2: what was not begun, what is over, and what is no phase.
func TestTakeInNoPhase(t *testing.T) {
	for _, phase := range append([]int{api.PhOff, api.PhEnd}, strange...) {
		for _, e := range everyEvent() {
			lookAtTake(t, in(phase), e, phase, "")
			lookAtTake(t, api.Stream{Phase: phase}, e, phase, "")
		}
	}
}

// P8.2: something wrong, in every phase in which something is said.
func TestTakeWrong(t *testing.T) {
	told := map[api.Errno]string{60: "not-well-formed", 61: "restricted-xml", 62: "policy-violation", 63: "unsupported-encoding"}
	for _, phase := range phases[1:4] {
		for err := api.Errno(-300); err < 300; err++ {
			cond := told[err]
			if cond == "" {
				cond = "undefined-condition"
			}
			lookAtTake(t, in(phase), wrong(err), api.PhEnd, endingWith(cond))
			e := failed
			e.Kind, e.Err = api.EvWrong, err
			lookAtTake(t, in(phase), e, api.PhEnd, endingWith(cond))
		}
		for _, err := range []api.Errno{-1 << 63, 1<<32 + 60, 1<<8 + 61, 1<<63 - 1} {
			lookAtTake(t, in(phase), wrong(err), api.PhEnd, endingWith("undefined-condition"))
		}
	}
}

// P8.2: the end of the server's stream, whatever the event tells beside.
func TestTakeClose(t *testing.T) {
	for _, phase := range phases[1:4] {
		lookAtTake(t, in(phase), closed, api.PhEnd, ending)
		for _, e := range []api.Event{open("3"), shaken, failed, wrong(api.ErrXml), stanza(elem("a", "b"))} {
			e.Kind = api.EvClose
			lookAtTake(t, in(phase), e, api.PhEnd, ending)
		}
	}
}

// P8.2: PhHeader, the only beginning that is taken, and all others.
func TestTakeInHeader(t *testing.T) {
	for _, id := range []string{"3", "0", " ", "'", "<", "\u00e9", "\x00\xff", strings.Repeat("i", 500)} {
		lookAtTake(t, in(api.PhHeader), open(id), api.PhShake, handshakeOf(id, "s"))
		other := api.Stream{Domain: "d", Secret: "<" + id, Phase: api.PhHeader}
		lookAtTake(t, other, open(id), api.PhShake, handshakeOf(id, "<"+id))
	}
	lookAtTake(t, in(api.PhHeader), open("3"), api.PhShake, "<handshake>87319d87285262da8ff4e7cb59c6c6239009ac2e</handshake>")
	rich := api.Event{Kind: api.EvOpen, Err: api.ErrXml, Elem: api.Elem{Space: api.SpStream, Name: "stream", Text: "t", Kids: []api.Elem{elem("a", "b")},
		Attrs: []api.Attr{{Name: "from", Value: "x.org"}, {Name: "id", Value: "a&b"}, {Name: "id", Value: "2"}, {Name: "Id", Value: "4"}}}}
	lookAtTake(t, in(api.PhHeader), rich, api.PhShake, handshakeOf("a&b", "s"))

	bad := []api.Event{
		open(""), shaken, failed, stanza(elem("a", "b")), stanza(open("3").Elem), {}, {Kind: 5, Elem: open("3").Elem}, {Kind: -1, Elem: open("3").Elem},
		{Kind: api.EvOpen}, {Kind: api.EvOpen, Elem: elem(api.SpStream, "stream")},
		{Kind: api.EvOpen, Elem: tag.New(api.SpComponent, "stream", "id", "3")}, {Kind: api.EvOpen, Elem: tag.New("", "stream", "id", "3")},
		{Kind: api.EvOpen, Elem: tag.New(api.SpStream+"/", "stream", "id", "3")}, {Kind: api.EvOpen, Elem: tag.New(api.SpStream, "streams", "id", "3")},
		{Kind: api.EvOpen, Elem: tag.New(api.SpStream, "Stream", "id", "3")}, {Kind: api.EvOpen, Elem: tag.New(api.SpStream, "stream:stream", "id", "3")},
		{Kind: api.EvOpen, Elem: tag.New(api.SpStream, "", "id", "3")}, {Kind: api.EvOpen, Elem: tag.New(api.SpStream, "stream", "ID", "3")},
		{Kind: api.EvOpen, Elem: api.Elem{Space: api.SpStream, Name: "stream", Attrs: []api.Attr{{Name: "id"}, {Name: "id", Value: "3"}}}},
		{Kind: api.EvOpen, Elem: api.Elem{Space: api.SpStream, Name: "stream", Kids: []api.Elem{open("3").Elem}}},
	}
	for _, e := range bad {
		lookAtTake(t, in(api.PhHeader), e, api.PhEnd, endingWith("invalid-xml"))
	}
}

// P8.2: PhShake, where the handshake is answered, or refused.
func TestTakeInShake(t *testing.T) {
	lookAtTake(t, in(api.PhShake), shaken, api.PhOpen, "")
	rich := stanza(api.Elem{Space: api.SpComponent, Name: "handshake", Text: "t", Attrs: []api.Attr{{Name: "a", Value: "b"}}, Kids: []api.Elem{elem(api.SpStream, "error")}})
	lookAtTake(t, in(api.PhShake), rich, api.PhOpen, "")
	lookAtTake(t, in(api.PhShake), failed, api.PhEnd, ending)
	lookAtTake(t, in(api.PhShake), stanza(elem(api.SpStream, "error")), api.PhEnd, ending)
	bad := []api.Event{
		open("3"), open(""), {}, {Kind: api.EvOpen, Elem: shaken.Elem}, {Kind: api.EvOpen, Elem: failed.Elem}, {Kind: 5, Elem: shaken.Elem}, {Kind: -2, Elem: failed.Elem},
	}
	for _, e := range append(bad, strangers()...) {
		lookAtTake(t, in(api.PhShake), e, api.PhEnd, endingWith("invalid-xml"))
	}
}

// strangers are stanzas that are neither the handshake nor an error, but near to them.
func strangers() []api.Event {
	var events []api.Event
	for _, space := range []string{"", "a", api.SpComponent, api.SpStream, api.SpStream + "s", "jabber:component", "Jabber:component:accept"} {
		for _, name := range []string{"", "b", "message", "handshake", "error", "Handshake", "Error", "handshakes", "errors", "stream", "stream:error"} {
			if (space != api.SpComponent || name != "handshake") && (space != api.SpStream || name != "error") {
				events = append(events, stanza(elem(space, name)))
			}
		}
	}
	return events
}

// P8.2: PhOpen, where stanzas come, an error ends all, and no second beginning is taken.
func TestTakeInOpen(t *testing.T) {
	for _, e := range append(strangers(), shaken) {
		e.Err = api.ErrXml
		lookAtTake(t, in(api.PhOpen), e, api.PhOpen, "", e.Elem)
	}
	rich := api.Elem{Space: "a", Name: "b", Text: "\x00<", Attrs: []api.Attr{{Name: "c", Value: "'"}, {Name: "c"}, {Name: "", Value: "x"}}, Kids: []api.Elem{
		elem(api.SpStream, "error"), {Space: "k", Name: "l", Attrs: []api.Attr{{Name: "m", Value: "n"}}, Text: "o", Kids: []api.Elem{elem("", ""), elem("p", "q")}}, elem("k", "l"),
	}}
	lookAtTake(t, in(api.PhOpen), stanza(rich), api.PhOpen, "", rich)
	lookAtTake(t, in(api.PhOpen), failed, api.PhEnd, ending)
	lookAtTake(t, in(api.PhOpen), stanza(elem(api.SpStream, "error")), api.PhEnd, ending)
	for _, e := range []api.Event{open("3"), open(""), {}, {Kind: api.EvOpen, Elem: elem("a", "b")}, {Kind: 5, Elem: elem("a", "b")}, {Kind: -2, Elem: failed.Elem}, {Kind: 1 << 32, Elem: elem("a", "b")}} {
		lookAtTake(t, in(api.PhOpen), e, api.PhEnd, endingWith("invalid-xml"))
	}
}

// P8.2: elements that lie deep within one another come whole.
func TestTakeDeepElements(t *testing.T) {
	e := elem("a", "b")
	for range 20000 {
		e = api.Elem{Space: "a", Name: "b", Kids: []api.Elem{e}}
	}
	_, _, list := Take(in(api.PhOpen), stanza(e))
	if len(list) != 1 || !tag.Same(list[0], e) {
		t.Fatal(len(list))
	}
}

// P8.3: in PhOpen alone, and without the mark of the stream's own space.
func TestSend(t *testing.T) {
	message := tag.New(api.SpComponent, "message", "to", "a'b")
	message.Kids = []api.Elem{{Space: api.SpComponent, Name: "body", Text: "<"}, elem("x", "y")}
	for _, c := range []struct {
		e    api.Elem
		want string
	}{
		{message, "<message to='a&apos;b'><body>&lt;</body><y xmlns='x'/></message>"},
		{elem(api.SpComponent, "iq"), "<iq/>"},
		{elem("a", "b"), "<b xmlns='a'/>"},
		{elem(api.SpStream, "error"), "<error xmlns='http://etherx.jabber.org/streams'/>"},
		{api.Elem{}, "< xmlns=''/>"},
	} {
		if got := Send(in(api.PhOpen), c.e); got != c.want || got != tag.Put(c.e, api.SpComponent) {
			t.Fatalf("%q, not %q", got, c.want)
		}
		for _, phase := range append([]int{api.PhOff, api.PhHeader, api.PhShake, api.PhEnd}, strange...) {
			if got := Send(in(phase), c.e); got != "" {
				t.Fatalf("in phase %d: %q", phase, got)
			}
		}
	}
}

// P8.4: every phase, with a condition and without.
func TestEnd(t *testing.T) {
	for _, cond := range []string{"", "a", "invalid-xml", "system-shutdown", "undefined-condition", " ", "\x00", "<'&"} {
		for _, phase := range phases[1:4] {
			want := in(api.PhEnd)
			if got, said := End(in(phase), cond); got != want || said != endingWith(cond) {
				t.Fatalf("End in phase %d, with %q: %v, %q", phase, cond, got, said)
			}
		}
		for _, phase := range append([]int{api.PhOff, api.PhEnd}, strange...) {
			if got, said := End(in(phase), cond); got != in(phase) || said != "" {
				t.Fatalf("End in phase %d, with %q: %v, %q", phase, cond, got, said)
			}
		}
	}
}

// everyEvent are events of all kinds that matter, and of none.
func everyEvent() []api.Event {
	events := append(strangers(), shaken, failed, closed, open("3"), open(""), open("4"))
	for err := range api.Errno(70) {
		events = append(events, wrong(err))
	}
	for _, kind := range []int{-1, 0, 1, 2, 3, 4, 5, 6} {
		for _, e := range []api.Elem{{}, shaken.Elem, failed.Elem, open("3").Elem, elem("a", "b")} {
			events = append(events, api.Event{Kind: kind, Elem: e})
		}
	}
	return events
}

// takeOf says P8.2 by its words, step by step.
func takeOf(s api.Stream, e api.Event) (phase int, said string, comes bool) {
	if s.Phase < 1 || s.Phase > 3 {
		return s.Phase, "", false
	}
	switch e.Kind {
	case 4:
		switch e.Err {
		case 60:
			return 4, endingWith("not-well-formed"), false
		case 61:
			return 4, endingWith("restricted-xml"), false
		case 62:
			return 4, endingWith("policy-violation"), false
		case 63:
			return 4, endingWith("unsupported-encoding"), false
		}
		return 4, endingWith("undefined-condition"), false
	case 3:
		return 4, ending, false
	case 2:
		in := "{" + e.Elem.Space + "}" + e.Elem.Name
		if s.Phase >= 2 && in == "{http://etherx.jabber.org/streams}error" {
			return 4, ending, false
		}
		if s.Phase == 2 && in == "{jabber:component:accept}handshake" {
			return 3, "", false
		}
		if s.Phase == 3 {
			return 3, "", true
		}
	case 1:
		in := "{" + e.Elem.Space + "}" + e.Elem.Name
		if s.Phase == 1 && in == "{http://etherx.jabber.org/streams}stream" && tag.Attr(e.Elem, "id") != "" {
			return 2, handshakeOf(tag.Attr(e.Elem, "id"), s.Secret), false
		}
	}
	return 4, endingWith("invalid-xml"), false
}

// P8.2: every event in every phase, against the promise's words.
func TestEveryEventInEveryPhase(t *testing.T) {
	for _, phase := range append(phases, strange...) {
		for _, e := range everyEvent() {
			next, said, comes := takeOf(in(phase), e)
			if comes {
				lookAtTake(t, in(phase), e, next, said, e.Elem)
			} else {
				lookAtTake(t, in(phase), e, next, said)
			}
		}
	}
}

// lookAtOrder takes what must hold from one step to the next (P8.5).
func lookAtOrder(t *testing.T, s, next api.Stream, said string, elems []api.Elem) {
	t.Helper()
	if next.Domain != s.Domain || next.Secret != s.Secret || next.Phase < s.Phase || next.Phase > api.PhEnd {
		t.Fatalf("%v became %v", s, next)
	}
	if s.Phase == api.PhEnd && said != "" {
		t.Fatalf("%q behind the end", said)
	}
	if len(elems) > 0 && (s.Phase != api.PhOpen || next.Phase != api.PhOpen) {
		t.Fatalf("%v in %v", elems, s)
	}
	if ended := s.Phase < api.PhEnd && next.Phase == api.PhEnd; ended != strings.HasSuffix(said, ending) {
		t.Fatalf("%v became %v, and %q was said", s, next, said)
	}
}

// P8.5: whatever is taken, sent and ended, in whatever order.
func TestInOrder(t *testing.T) {
	r := rand.New(rand.NewSource(8))
	events := append(everyEvent(), open("3"), shaken)
	reached := map[int]int{}
	for range 50000 {
		s, _, err := Begin("x.org", "s")
		if err != api.OK {
			t.Fatal(err)
		}
		ahead := []api.Event{open("3"), shaken, stanza(elem("a", "b"))}[:r.Intn(4)]
		for i := range 1 + r.Intn(8) {
			e := events[r.Intn(len(events))]
			if i < len(ahead) {
				e = ahead[i]
			}
			next, said, elems := Take(s, e)
			if r.Intn(20) == 0 {
				next, said = End(s, []string{"", "a"}[r.Intn(2)])
				elems = nil
			}
			lookAtOrder(t, s, next, said, elems)
			if sent := Send(next, elem("a", "b")); (sent != "") != (next.Phase == api.PhOpen) {
				t.Fatalf("%q in %v", sent, next)
			}
			s = next
		}
		reached[s.Phase]++
	}
	for _, phase := range phases[2:] {
		if reached[phase] < 500 {
			t.Fatalf("phase %d only %d times", phase, reached[phase])
		}
	}
}

// P8.1 to P8.5: a whole stream, from the server's bytes on, and back.
func TestWholeStream(t *testing.T) {
	s, header, _ := Begin("x.org", "s")
	own := scan.New()
	if evs := own.Feed(header); len(evs) != 1 || evs[0].Kind != api.EvOpen || evs[0].Elem.Space != api.SpStream || tag.Attr(evs[0].Elem, "to") != "x.org" {
		t.Fatalf("%v", evs)
	}
	server := "<?xml version='1.0'?><stream:stream xmlns:stream='http://etherx.jabber.org/streams' xmlns='jabber:component:accept' from='x.org' id='3&amp;4'>" +
		"<handshake/><iq id='1' type='get'><query xmlns='q'/></iq> <message/></stream:stream><late/>"
	said, came := "", []api.Elem(nil)
	for _, e := range scan.New().Feed(server) {
		next, text, elems := Take(s, e)
		lookAtOrder(t, s, next, text, elems)
		s, said, came = next, said+text, append(came, elems...)
	}
	if want := handshakeOf("3&4", "s") + ending; said != want || s != in(api.PhEnd) {
		t.Fatalf("%q, not %q, %v", said, want, s)
	}
	iq := tag.New(api.SpComponent, "iq", "id", "1", "type", "get")
	iq.Kids = []api.Elem{elem("q", "query")}
	if want := []api.Elem{iq, elem(api.SpComponent, "message")}; !reflect.DeepEqual(came, want) {
		t.Fatalf("%v, not %v", came, want)
	}
	sent := Send(in(api.PhOpen), iq)
	evs := own.Feed(handshakeOf("3&4", "s") + sent + endingWith("invalid-xml"))
	if len(evs) != 4 || !tag.Same(evs[1].Elem, iq) || evs[2].Elem.Space != api.SpStream || evs[2].Elem.Name != "error" || evs[3].Kind != api.EvClose {
		t.Fatalf("%v", evs)
	}
	if _, ok := tag.Kid(evs[2].Elem, "urn:ietf:params:xml:ns:xmpp-streams", "invalid-xml"); !ok {
		t.Fatalf("%v", evs[2])
	}
}

// What comes shares nothing with what was handed in, spare room neither, and what is handed in is not changed.
func TestAnswersAreApart(t *testing.T) {
	build := func() api.Elem {
		attrs := append(make([]api.Attr, 0, 8), api.Attr{Name: "c", Value: "d"})
		kids := append(make([]api.Elem, 0, 8), api.Elem{Space: "k", Name: "l", Attrs: append(make([]api.Attr, 0, 4), api.Attr{Name: "m", Value: "n"}), Kids: []api.Elem{elem("p", "q")}})
		return api.Elem{Space: "a", Name: "b", Attrs: attrs, Kids: kids}
	}
	e := build()
	_, _, one := Take(in(api.PhOpen), stanza(e))
	_, _, two := Take(in(api.PhOpen), stanza(e))
	if !reflect.DeepEqual(e, build()) || e.Attrs[:2][1] != (api.Attr{}) || e.Kids[:2][1].Name != "" {
		t.Fatal("changed")
	}
	spoil := func(e api.Elem) {
		e.Attrs[0].Value = "!"
		_ = append(e.Attrs, api.Attr{Name: "!"})
		e.Kids[0].Name = "!"
		e.Kids[0].Attrs[0].Value = "!"
		_ = append(e.Kids[0].Attrs, api.Attr{Name: "!"})
		e.Kids[0].Kids[0].Name = "!"
		_ = append(e.Kids, api.Elem{Name: "!"})
	}
	spoil(one[0])
	_ = append(one, api.Elem{Name: "!"})
	if !reflect.DeepEqual(e, build()) || !reflect.DeepEqual(two, []api.Elem{build()}) || e.Attrs[:2][1] != (api.Attr{}) || e.Kids[:2][1].Name != "" {
		t.Fatal("an answer shares memory")
	}
	spoil(e)
	if !reflect.DeepEqual(two, []api.Elem{build()}) {
		t.Fatal("an answer shares memory with what was handed in")
	}
}

// All are pure functions: the same every time, also at the same time.
func TestPure(t *testing.T) {
	e := stanza(api.Elem{Space: "a", Name: "b", Attrs: []api.Attr{{Name: "c", Value: "d"}}, Kids: []api.Elem{elem("k", "l")}})
	var all sync.WaitGroup
	for range 8 {
		all.Go(func() {
			for range 200 {
				s, header, err := Begin("x.org", "s")
				shake, handshake, _ := Take(s, open("3"))
				up, _, _ := Take(shake, shaken)
				_, _, elems := Take(up, e)
				over, said, _ := Take(up, wrong(api.ErrBig))
				if err != api.OK || header != headerOf+"x.org'>" || handshake != handshakeOf("3", "s") || up != in(api.PhOpen) ||
					len(elems) != 1 || !tag.Same(elems[0], e.Elem) || over != in(api.PhEnd) || said != endingWith("policy-violation") ||
					Send(up, e.Elem) != "<b xmlns='a' c='d'><l xmlns='k'/></b>" {
					t.Error("another answer")
				}
			}
		})
	}
	all.Wait()
}
