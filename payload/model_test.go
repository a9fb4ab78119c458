package payload

import (
	"fmt"
	"reflect"
	"slices"
	"strings"
	"testing"

	"wharf/api"
	"wharf/glyph"
	"wharf/jid"
	"wharf/tag"
)

const (
	register = "jabber:iq:register"
	gateway  = "jabber:iq:gateway"
	last     = "jabber:iq:last"
	info     = "http://jabber.org/protocol/disco#info"
	items    = "http://jabber.org/protocol/disco#items"
	rosterx  = "http://jabber.org/protocol/rosterx"
)

// allSpaces has those that are known, and others that are like them.
var allSpaces = []string{register, gateway, last, info, items, rosterx, "", "q", "jabber:component:accept", "jabber:iq:Register", register + " ", gateway + "s", "http://jabber.org/protocol/disco", "query"}

func elem(space, name string, kids ...api.Elem) api.Elem {
	return api.Elem{Space: space, Name: name, Kids: kids}
}

func word(space, name, text string) api.Elem {
	return api.Elem{Space: space, Name: name, Text: text}
}

// told is an item with attributes: a name, its value, the next name; also empty values.
func told(kids []api.Elem, attrs ...string) api.Elem {
	e := api.Elem{Space: rosterx, Name: "item", Kids: kids}
	for i := 0; i+1 < len(attrs); i += 2 {
		e.Attrs = append(e.Attrs, api.Attr{Name: attrs[i], Value: attrs[i+1]})
	}
	return e
}

// cut keeps what is told of a failure short.
func cut(x any) string {
	s := fmt.Sprintf("%+v", x)
	return s[:min(len(s), 600)]
}

// textsOf answers the texts of e's kids of that name, and of its Space.
func textsOf(e api.Elem, name string) []string {
	var l []string
	for _, k := range e.Kids {
		if k.Name == name && k.Space == e.Space {
			l = append(l, k.Text)
		}
	}
	return l
}

func firstOf(l []string) string {
	return append(l, "")[0]
}

func trimmed(s string) string {
	return strings.Trim(s, " \t\n\r")
}

// readOf says P10.1 by its words.
func readOf(kind string, e api.Elem) (api.Ask, api.Errno) {
	if e.Name != "query" {
		return api.Ask{}, api.ErrLoad
	}
	switch [2]string{kind, e.Space} {
	case [2]string{"get", register}:
		return api.Ask{Kind: 1}, api.OK
	case [2]string{"set", register}:
		if len(textsOf(e, "remove")) > 0 {
			return api.Ask{Kind: 3}, api.OK
		}
		return api.Ask{Kind: 2, User: trimmed(firstOf(textsOf(e, "username"))), Password: firstOf(textsOf(e, "password"))}, api.OK
	case [2]string{"get", gateway}:
		return api.Ask{Kind: 4}, api.OK
	case [2]string{"set", gateway}:
		if l := textsOf(e, "prompt"); len(l) > 0 {
			return api.Ask{Kind: 5, Text: trimmed(l[0])}, api.OK
		}
	case [2]string{"get", info}:
		return api.Ask{Kind: 6}, api.OK
	case [2]string{"get", items}:
		return api.Ask{Kind: 7}, api.OK
	case [2]string{"get", last}:
		return api.Ask{Kind: 8}, api.OK
	}
	return api.Ask{}, api.ErrLoad
}

// putOf says P10.2 by its words: the Type, and the text of the element.
func putOf(a api.Ask) (string, string) {
	q := tag.Quote
	one := func(name, text string) string {
		if text == "" {
			return "<" + name + "/>"
		}
		return "<" + name + ">" + q(text) + "</" + name + ">"
	}
	switch a.Kind {
	case 1:
		return "get", "<query xmlns='jabber:iq:register'/>"
	case 2:
		return "set", "<query xmlns='jabber:iq:register'>" + one("username", a.User) + one("password", a.Password) + "</query>"
	case 3:
		return "set", "<query xmlns='jabber:iq:register'><remove/></query>"
	case 4:
		return "get", "<query xmlns='jabber:iq:gateway'/>"
	case 5:
		return "set", "<query xmlns='jabber:iq:gateway'>" + one("prompt", a.Text) + "</query>"
	case 6:
		return "get", "<query xmlns='http://jabber.org/protocol/disco#info'/>"
	case 7:
		return "get", "<query xmlns='http://jabber.org/protocol/disco#items'/>"
	case 8:
		return "get", "<query xmlns='jabber:iq:last'/>"
	}
	return "", ""
}

var actions = map[int]string{1: "add", 2: "delete", 3: "modify"}

// rosterOf says P10.4's first sentence by its words.
func rosterOf(l []api.Entry) api.Elem {
	e := elem(rosterx, "x")
	for _, n := range l {
		k := told(nil)
		for _, a := range []api.Attr{{Name: "action", Value: actions[n.Act]}, {Name: "jid", Value: jid.Put(n.Jid)}, {Name: "name", Value: n.Name}} {
			if a.Value != "" {
				k.Attrs = append(k.Attrs, a)
			}
		}
		if n.Group != "" {
			k.Kids = []api.Elem{word(rosterx, "group", n.Group)}
		}
		e.Kids = append(e.Kids, k)
	}
	return e
}

// entriesOf says P10.4's second sentence by its words.
func entriesOf(e api.Elem) ([]api.Entry, api.Errno) {
	if e.Space != rosterx || e.Name != "x" {
		return nil, api.ErrLoad
	}
	acts := map[string]int{"": 1, "add": 1, "delete": 2, "modify": 3}
	var l []api.Entry
	for _, k := range e.Kids {
		if k.Space != rosterx || k.Name != "item" {
			continue
		}
		attrs := map[string]string{}
		for _, a := range slices.Backward(k.Attrs) {
			attrs[a.Name] = a.Value
		}
		j, err := jid.Parse(attrs["jid"])
		if err != api.OK || acts[attrs["action"]] == 0 {
			return nil, api.ErrLoad
		}
		l = append(l, api.Entry{Act: acts[attrs["action"]], Jid: j, Name: attrs["name"], Group: firstOf(textsOf(k, "group"))})
	}
	return l, api.OK
}

func lookAtRead(t *testing.T, kind string, e api.Elem, want api.Ask, err api.Errno) {
	t.Helper()
	if got, no := Read(kind, e); got != want || no != err {
		t.Fatalf("Read(%q, %s): %+v, %d, not %+v, %d", kind, cut(e), got, no, want, err)
	}
	if got, no := readOf(kind, e); got != want || no != err {
		t.Fatalf("by the words %q, %s: %+v, %d, not %+v, %d", kind, cut(e), got, no, want, err)
	}
}

// lookAtElem asks for an element by its text, in which all that differs is to be seen.
func lookAtElem(t *testing.T, got api.Elem, want string) {
	t.Helper()
	if s := tag.Put(got, ""); s != want {
		t.Fatalf("%s, not %s", s, want)
	}
}

func lookAtEntries(t *testing.T, e api.Elem, want []api.Entry, err api.Errno) {
	t.Helper()
	if got, no := Entries(e); !slices.Equal(got, want) || no != err {
		t.Fatalf("Entries(%s): %s, %d, not %s, %d", cut(e), cut(got), no, cut(want), err)
	}
	if got, no := entriesOf(e); !slices.Equal(got, want) || no != err {
		t.Fatalf("by the words %s: %s, %d, not %s, %d", cut(e), cut(got), no, cut(want), err)
	}
}

// texts have all that may be stumbled over; some are no texts (glyph.Check).
func texts() []string {
	list := []string{"", "s", " s ", "\t\r\n", " ", "<&>'\"", "]]>", "&amp;", "&#x9;", "\u00e9\u20ac\U0001f600\U0010ffff", "\u00a0s\u2003", "\xff", "a\x00", " a b\n", strings.Repeat("\u20ac", 1000), strings.Repeat(" ", 3000) + "x"}
	for c := range 256 {
		list = append(list, string([]byte{byte(c)}), "x"+string([]byte{byte(c)})+"x")
	}
	return list
}

// goodTexts are those texts that may stand in an element.
func goodTexts() []string {
	return slices.DeleteFunc(texts(), func(s string) bool { return glyph.Check(s) != api.OK })
}

// roomy is an element whose lists have spare room.
func roomy(e api.Elem) api.Elem {
	e.Attrs = append(make([]api.Attr, 0, len(e.Attrs)+4), e.Attrs...)
	kids := make([]api.Elem, 0, len(e.Kids)+4)
	for _, k := range e.Kids {
		kids = append(kids, roomy(k))
	}
	e.Kids = kids
	return e
}

// spoil changes all that it finds in a list, and in its spare room.
func spoil(l []api.Elem) {
	l = l[:cap(l)]
	for i := range l {
		attrs := l[i].Attrs[:cap(l[i].Attrs)]
		for k := range attrs {
			attrs[k] = api.Attr{Name: "!", Value: "!"}
		}
		spoil(l[i].Kids)
		l[i] = api.Elem{Space: "!", Name: "!", Text: "!", Attrs: l[i].Attrs, Kids: l[i].Kids}
	}
}

// whole answers e with its spare room laid open, to be held against another one.
func whole(e api.Elem) api.Elem {
	e.Attrs = slices.Clone(e.Attrs[:cap(e.Attrs)])
	kids := slices.Clone(e.Kids[:cap(e.Kids)])
	for i := range kids {
		kids[i] = whole(kids[i])
	}
	e.Kids = kids
	return e
}

// unchanged calls look with e, and asks that it is the same behind that, spare room too.
func unchanged(t *testing.T, e api.Elem, look func(e api.Elem)) {
	t.Helper()
	e = roomy(e)
	was := whole(e)
	look(e)
	if !reflect.DeepEqual(whole(e), was) {
		t.Fatalf("%s was changed", cut(was))
	}
}
