package payload

import (
	"math"
	"math/rand"
	"slices"
	"strconv"
	"strings"
	"sync"
	"testing"

	"wharf/api"
	"wharf/jid"
	"wharf/scan"
	"wharf/tag"
)

// P10.1: the lines of the table, and what is nearly one of them.
func TestRead(t *testing.T) {
	joe, pass, remove, prompt := word(register, "username", " joe\t"), word(register, "password", " p "), elem(register, "remove"), word(gateway, "prompt", "\r\n x y ")
	lookAtRead(t, "get", elem(register, "query"), api.Ask{Kind: api.AskForm}, api.OK)
	lookAtRead(t, "get", elem(register, "query", remove, joe, pass), api.Ask{Kind: api.AskForm}, api.OK)
	lookAtRead(t, "set", elem(register, "query", remove), api.Ask{Kind: api.AskLeave}, api.OK)
	lookAtRead(t, "set", elem(register, "query", joe, pass, word(register, "remove", "x")), api.Ask{Kind: api.AskLeave}, api.OK)
	lookAtRead(t, "set", elem(register, "query", joe, pass), api.Ask{Kind: api.AskJoin, User: "joe", Password: " p "}, api.OK)
	lookAtRead(t, "set", elem(register, "query", pass, joe), api.Ask{Kind: api.AskJoin, User: "joe", Password: " p "}, api.OK)
	lookAtRead(t, "set", elem(register, "query"), api.Ask{Kind: api.AskJoin}, api.OK)
	lookAtRead(t, "set", elem(register, "query", pass), api.Ask{Kind: api.AskJoin, Password: " p "}, api.OK)
	lookAtRead(t, "set", elem(register, "query", joe), api.Ask{Kind: api.AskJoin, User: "joe"}, api.OK)
	lookAtRead(t, "set", elem(register, "query", prompt, elem(gateway, "remove"), elem("", "remove"), elem(register, "Remove")), api.Ask{Kind: api.AskJoin}, api.OK)
	lookAtRead(t, "set", elem(register, "query", word("q", "username", "x"), joe, word(register, "username", "y"), pass, word(register, "password", "")), api.Ask{Kind: api.AskJoin, User: "joe", Password: " p "}, api.OK)
	lookAtRead(t, "set", elem(register, "query", elem(register, "username", word(register, "username", "x")), elem(register, "x", pass, remove)), api.Ask{Kind: api.AskJoin}, api.OK)
	lookAtRead(t, "get", elem(gateway, "query"), api.Ask{Kind: api.AskHint}, api.OK)
	lookAtRead(t, "get", elem(gateway, "query", prompt), api.Ask{Kind: api.AskHint}, api.OK)
	lookAtRead(t, "set", elem(gateway, "query", prompt), api.Ask{Kind: api.AskName, Text: "x y"}, api.OK)
	lookAtRead(t, "set", elem(gateway, "query", elem("q", "prompt"), elem(gateway, "prompt"), prompt), api.Ask{Kind: api.AskName}, api.OK)
	lookAtRead(t, "set", elem(gateway, "query"), api.Ask{}, api.ErrLoad)
	lookAtRead(t, "set", elem(gateway, "query", word(register, "prompt", "x"), word("", "prompt", "x"), elem(gateway, "remove"), elem(gateway, "x", prompt)), api.Ask{}, api.ErrLoad)
	for space, ask := range map[string]int{info: api.AskInfo, items: api.AskItems, last: api.AskLast} {
		lookAtRead(t, "get", elem(space, "query"), api.Ask{Kind: ask}, api.OK)
		lookAtRead(t, "get", api.Elem{Space: space, Name: "query", Text: "x", Attrs: []api.Attr{{Name: "node", Value: "y"}}, Kids: []api.Elem{word(space, "prompt", "x")}}, api.Ask{Kind: ask}, api.OK)
		lookAtRead(t, "set", elem(space, "query"), api.Ask{}, api.ErrLoad)
		lookAtRead(t, "set", elem(space, "query", elem(space, "remove"), word(space, "prompt", "x")), api.Ask{}, api.ErrLoad)
	}
	lookAtRead(t, "", api.Elem{}, api.Ask{}, api.ErrLoad)
}

// P10.1: all Types, Spaces and Names, each with kids that might be asked for.
func TestReadWrong(t *testing.T) {
	types := []string{"get", "set", "", "result", "error", "Get", "SET", "get ", "gets", "ge", "getset", "\x00", "\xff"}
	names := []string{"query", "", "Query", "query ", "quer", "x", "remove", "prompt", "username"}
	good := 0
	for _, space := range allSpaces {
		for _, name := range names {
			for _, kids := range [][]api.Elem{nil, {elem(space, "remove")}, {word(space, "prompt", " a ")}, {word(space, "username", " a "), word(space, "password", " b ")}} {
				for _, kind := range types {
					e := elem(space, name, kids...)
					want, err := readOf(kind, e)
					lookAtRead(t, kind, e, want, err)
					if err == api.OK {
						good++
					}
				}
			}
		}
	}
	if good != 4+4+4+1+3*4 { // get and set of register, get and set of gateway, get of three others
		t.Fatalf("%d could be read", good)
	}
}

// P10.1: what is trimmed, and what is not; of each text, also of those that are none.
func TestReadTexts(t *testing.T) {
	for _, s := range texts() {
		lookAtRead(t, "set", elem(register, "query", word(register, "username", s), word(register, "password", s)), api.Ask{Kind: api.AskJoin, User: trimmed(s), Password: s}, api.OK)
		lookAtRead(t, "set", elem(gateway, "query", word(gateway, "prompt", s)), api.Ask{Kind: api.AskName, Text: trimmed(s)}, api.OK)
	}
}

// P10.1: elements that were thrown together, against the promise's words.
func TestReadAtRandom(t *testing.T) {
	r := rand.New(rand.NewSource(10))
	few := texts()[:12]
	asked := map[int]int{}
	for range 100000 {
		space := allSpaces[r.Intn(5+r.Intn(len(allSpaces)-4))]
		e := elem(space, "query")
		for range r.Intn(6) {
			k := word(space, []string{"remove", "username", "password", "prompt", "username", "password", "x"}[r.Intn(7)], few[r.Intn(len(few))])
			if r.Intn(4) == 0 {
				k.Space = allSpaces[r.Intn(len(allSpaces))]
			}
			e.Kids = append(e.Kids, k)
		}
		kind := []string{"get", "set", "set", "result"}[r.Intn(4)]
		want, err := readOf(kind, e)
		lookAtRead(t, kind, e, want, err)
		asked[want.Kind]++
	}
	for kind := range 9 {
		if asked[kind] < 100 {
			t.Fatalf("only %d of the Kind %d", asked[kind], kind)
		}
	}
}

// P10.2: the Type and the element of each Kind, with the texts as they are; what the Kind has not is left out.
func TestPut(t *testing.T) {
	look := func(a api.Ask) {
		t.Helper()
		wantKind, want := putOf(a)
		kind, e := Put(a)
		if kind != wantKind {
			t.Fatalf("Put(%+v): %q", a, kind)
		}
		if want == "" && !tag.Same(e, api.Elem{}) {
			t.Fatalf("Put(%+v): %+v", a, e)
		}
		if want != "" {
			lookAtElem(t, e, want)
		}
	}
	for kind := range 9 {
		for _, s := range texts() {
			look(api.Ask{Kind: kind, User: s, Password: "p" + s, Text: "t" + s})
			look(api.Ask{Kind: kind, User: "u" + s, Password: s, Text: s})
		}
		look(api.Ask{Kind: kind})
	}
	for _, kind := range []int{0, -1, -2, -8, 9, 10, 256, 257, 1<<32 + 1, 1<<32 + 2, math.MinInt, math.MinInt + 1, math.MaxInt} {
		look(api.Ask{Kind: kind})
		look(api.Ask{Kind: kind, User: "a", Password: "b", Text: "c"})
	}
	kind, e := Put(api.Ask{Kind: api.AskJoin, User: " joe ", Password: "<"})
	if want := "<query><username> joe </username><password>&lt;</password></query>"; kind != "set" || tag.Put(e, register) != want {
		t.Fatal(kind, tag.Put(e, register))
	}
}

// P10.3: Form.
func TestForm(t *testing.T) {
	const told = "<instructions>Enter your screen name and password.</instructions>"
	lookAtElem(t, Form(false, ""), "<query xmlns='jabber:iq:register'>"+told+"<username/><password/></query>")
	lookAtElem(t, Form(true, ""), "<query xmlns='jabber:iq:register'><registered/>"+told+"<username/><password/></query>")
	for _, s := range texts()[1:] {
		lookAtElem(t, Form(false, s), "<query xmlns='jabber:iq:register'>"+told+"<username>"+tag.Quote(s)+"</username><password/></query>")
		lookAtElem(t, Form(true, s), "<query xmlns='jabber:iq:register'><registered/>"+told+"<username>"+tag.Quote(s)+"</username><password/></query>")
	}
}

// P10.3: Hint, and Name of addresses that may be and of others.
func TestHintAndName(t *testing.T) {
	lookAtElem(t, Hint(), "<query xmlns='jabber:iq:gateway'><desc>Enter the screen name of the person you want to add.</desc><prompt/></query>")
	lookAtElem(t, Name(api.Jid{}), "<query xmlns='jabber:iq:gateway'><jid/></query>")
	for _, s := range texts() {
		for _, j := range []api.Jid{{Node: s, Domain: "b"}, {Domain: "b", Resource: s}, {Node: "a", Domain: s, Resource: "c"}, {Domain: "B" + s}} {
			lookAtElem(t, Name(j), "<query xmlns='jabber:iq:gateway'><jid>"+tag.Quote(jid.Put(j))+"</jid></query>")
		}
	}
	lookAtElem(t, Name(api.Jid{Node: "joe", Domain: "aim.b", Resource: "x"}), "<query xmlns='jabber:iq:gateway'><jid>joe@aim.b/x</jid></query>")
}

// P10.3: Info and Items.
func TestInfoAndItems(t *testing.T) {
	features := func(spaces ...string) string {
		return "<feature var='" + strings.Join(spaces, "'/><feature var='") + "'/></query>"
	}
	lookAtElem(t, Info(true), "<query xmlns='"+info+"'><identity category='gateway' type='aim'/>"+features(register, gateway, info, items, last))
	lookAtElem(t, Info(false), "<query xmlns='"+info+"'><identity category='client' type='pc'/>"+features(info, last))
	lookAtElem(t, Items(), "<query xmlns='"+items+"'/>")
}

// P10.3: Last, at all ends of numbers.
func TestLast(t *testing.T) {
	list := []int64{0, 1, -1, 9, 10, 60, -60, math.MaxInt64, math.MaxInt64 - 1, math.MinInt64, math.MinInt64 + 1}
	for bit := range 63 {
		list = append(list, 1<<bit, 1<<bit-1, -(1 << bit))
	}
	for n := int64(1); n < math.MaxInt64/10; n *= 10 {
		list = append(list, n, n-1, n*10-1)
	}
	for _, n := range list {
		want := "0"
		if n > 0 {
			want = strconv.FormatInt(n, 10)
		}
		lookAtElem(t, Last(n), "<query xmlns='jabber:iq:last' seconds='"+want+"'/>")
	}
	lookAtElem(t, Last(math.MaxInt64), "<query xmlns='jabber:iq:last' seconds='9223372036854775807'/>")
}

// P10.4: rosters, also of entries that may not be.
func TestRoster(t *testing.T) {
	lookAtElem(t, Roster(nil), "<x xmlns='http://jabber.org/protocol/rosterx'/>")
	lookAtElem(t, Roster([]api.Entry{}), "<x xmlns='http://jabber.org/protocol/rosterx'/>")
	lookAtElem(t, Roster([]api.Entry{{}}), "<x xmlns='http://jabber.org/protocol/rosterx'><item/></x>")
	lookAtElem(t, Roster([]api.Entry{{Act: 2, Jid: api.Jid{Node: "a", Domain: "b", Resource: "C"}, Name: "<A>", Group: "g&"}, {Act: 3, Jid: api.Jid{Domain: "c"}, Name: " "}, {Act: 1, Jid: api.Jid{Domain: "d"}, Group: "\t"}}),
		"<x xmlns='http://jabber.org/protocol/rosterx'><item action='delete' jid='a@b/C' name='&lt;A&gt;'><group>g&amp;</group></item><item action='modify' jid='c' name=' '/><item action='add' jid='d'><group>&#x9;</group></item></x>")
	var all []api.Entry
	for _, act := range []int{1, 2, 3, 0, -1, 4, 5, 256, 257, 1<<32 + 1, math.MinInt, math.MaxInt} {
		for _, j := range []api.Jid{{}, {Domain: "b"}, {Node: "a", Domain: "b", Resource: "c"}, {Node: "A"}, {Resource: "c"}, {Domain: "B", Resource: "\xff"}} {
			for _, s := range texts()[:14] {
				n := api.Entry{Act: act, Jid: j, Name: s, Group: "g" + s}
				m := api.Entry{Act: act, Jid: j, Name: "n" + s, Group: s}
				all = append(all, n, m)
				lookAtElem(t, Roster([]api.Entry{n, m}), tag.Put(rosterOf([]api.Entry{n, m}), ""))
			}
		}
	}
	if got := Roster(all); !tag.Same(got, rosterOf(all)) || len(got.Kids) != len(all) {
		t.Fatal("another roster")
	}
}

// P10.4: what is handed over, with all that may be passed over.
func TestEntries(t *testing.T) {
	a, b := api.Jid{Node: "a", Domain: "b"}, api.Jid{Domain: "c", Resource: "D"}
	group := func(s string) []api.Elem { return []api.Elem{word(rosterx, "group", s)} }
	lookAtEntries(t, elem(rosterx, "x"), nil, api.OK)
	lookAtEntries(t, elem(rosterx, "x", told(nil, "jid", "A@B./")), nil, api.ErrLoad)
	lookAtEntries(t, elem(rosterx, "x", told(nil, "jid", "A@B."), told(group(" g "), "name", " n ", "jid", "c/D", "action", "delete")), []api.Entry{{Act: 1, Jid: a}, {Act: 2, Jid: b, Name: " n ", Group: " g "}}, api.OK)
	lookAtEntries(t, elem(rosterx, "x", told(nil, "jid", "c/D", "action", "modify"), told(nil, "jid", "c/D", "action", "modify")), []api.Entry{{Act: 3, Jid: b}, {Act: 3, Jid: b}}, api.OK)
	lookAtEntries(t, elem(rosterx, "x", told(nil, "jid", "a@b", "action", "add", "x", "y")), []api.Entry{{Act: 1, Jid: a}}, api.OK)
	lookAtEntries(t, elem(rosterx, "x", told([]api.Elem{word("q", "group", "h"), word(rosterx, "Group", "i"), elem(rosterx, "x", group("j")...), word(rosterx, "group", "g"), word(rosterx, "group", "k")}, "jid", "a@b")), []api.Entry{{Act: 1, Jid: a, Group: "g"}}, api.OK)
	lookAtEntries(t, elem(rosterx, "x", told([]api.Elem{elem(rosterx, "group", group("g")...), word(rosterx, "group", "k")}, "jid", "a@b")), []api.Entry{{Act: 1, Jid: a}}, api.OK)
	lookAtEntries(t, elem(rosterx, "x", elem("q", "item"), elem("", "item"), elem(rosterx, "Item"), elem(rosterx, "x", told(nil)), word(rosterx, "group", "g"), elem(rosterx, ""), told(nil, "jid", "a@b"), elem("q", "item")), []api.Entry{{Act: 1, Jid: a}}, api.OK)
	lookAtEntries(t, api.Elem{Space: rosterx, Name: "x", Text: "\xff", Attrs: []api.Attr{{Name: "1", Value: "2"}}, Kids: []api.Elem{told(nil, "jid", "a@b", "jid", "c/D", "action", "delete", "action", "x")}}, []api.Entry{{Act: 2, Jid: a}}, api.OK)
	lookAtEntries(t, elem(rosterx, "x", told(nil, "jid", "a@b", "action", "")), []api.Entry{{Act: 1, Jid: a}}, api.OK)
}

// P10.4: what hands nothing over; one bad item is enough, wherever it stands.
func TestEntriesWrong(t *testing.T) {
	good := told(nil, "jid", "a@b")
	for _, space := range allSpaces {
		for _, name := range []string{"x", "X", "", "query", "item", "x "} {
			if space != rosterx || name != "x" {
				lookAtEntries(t, elem(space, name), nil, api.ErrLoad)
				lookAtEntries(t, elem(space, name, good), nil, api.ErrLoad)
				lookAtEntries(t, elem(space, name, api.Elem{Space: space, Name: "item", Attrs: good.Attrs}), nil, api.ErrLoad)
			}
		}
	}
	bad := []api.Elem{told(nil), told(nil, "jid", ""), told(nil, "jid", "@b"), told(nil, "jid", "a@"), told(nil, "jid", "b/"), told(nil, "jid", "a b@c"), told(nil, "jid", "\xff"), told(nil, "jid", " b"), told(nil, "Jid", "a@b"), told(nil, "jid", "", "jid", "a@b"),
		told([]api.Elem{word(rosterx, "jid", "a@b")}, "name", "a@b"), told(nil, "jid", strings.Repeat("a", 1024))}
	for _, action := range []string{"Add", "add ", " add", "ADD", "remove", "adds", "ad", "1", "\x00", "\xff", "deleted", "modify,add", "none"} {
		bad = append(bad, told(nil, "jid", "a@b", "action", action), told(nil, "action", action, "action", "add", "jid", "a@b"))
	}
	for _, k := range bad {
		for at := range 4 {
			lookAtEntries(t, elem(rosterx, "x", slices.Insert([]api.Elem{good, elem("q", "item"), good}, at, k)...), nil, api.ErrLoad)
		}
	}
}

// P10.4: rosters that were thrown together, against the promise's words.
func TestEntriesAtRandom(t *testing.T) {
	r := rand.New(rand.NewSource(4))
	pick := func(l ...string) string { return l[r.Intn(len(l))] }
	good := 0
	for range 100000 {
		e := elem(rosterx, "x")
		for range r.Intn(5) {
			k := told(nil, "jid", pick("a@b", "A@B.", "c", "d/E", "a@b", "c", "c", "@"))
			for range r.Intn(4) {
				one := told(nil, pick("action", "name", "jid", "x"), pick("add", "delete", "modify", "delete", "", "a@b", "b")).Attrs
				k.Attrs = slices.Insert(k.Attrs, r.Intn(len(k.Attrs)+1), one...)
			}
			for range r.Intn(3) {
				k.Kids = append(k.Kids, word(pick(rosterx, rosterx, "q"), pick("group", "group", "item"), pick("", "g", "h")))
			}
			k.Space, k.Name = pick(rosterx, rosterx, rosterx, "q"), pick("item", "item", "item", "group")
			e.Kids = append(e.Kids, k)
		}
		want, err := entriesOf(e)
		lookAtEntries(t, e, want, err)
		if err == api.OK && len(want) > 1 {
			good++
		}
	}
	if good < 1000 {
		t.Fatalf("only %d could be read", good)
	}
}

// overStream answers what comes of an element that goes over a stream.
func overStream(t *testing.T, e api.Elem) api.Elem {
	t.Helper()
	header := "<s:stream xmlns='jabber:component:accept' xmlns:s='http://etherx.jabber.org/streams'>"
	evs := scan.New().Feed(header + tag.Put(e, "jabber:component:accept"))
	if len(evs) != 2 || evs[1].Kind != api.EvStanza || !tag.Same(evs[1].Elem, e) {
		t.Fatalf("%s came as %s", cut(e), cut(evs))
	}
	return evs[1].Elem
}

// P10.5: what is asked for is read again, but for what is trimmed; also when it has gone over a stream.
func TestAsksThereAndBack(t *testing.T) {
	look := func(a api.Ask) {
		t.Helper()
		want := a
		want.User, want.Text = trimmed(a.User), trimmed(a.Text)
		kind, e := Put(a)
		lookAtRead(t, kind, e, want, api.OK)
		lookAtRead(t, kind, overStream(t, e), want, api.OK)
		again, f := Put(want)
		lookAtRead(t, again, f, want, api.OK)
	}
	for kind := 1; kind <= 8; kind++ {
		look(api.Ask{Kind: kind})
	}
	for _, s := range goodTexts() {
		look(api.Ask{Kind: api.AskJoin, User: s, Password: s})
		look(api.Ask{Kind: api.AskJoin, User: s})
		look(api.Ask{Kind: api.AskJoin, Password: s})
		look(api.Ask{Kind: api.AskName, Text: s})
	}
	for _, s := range texts() {
		kind, e := Put(api.Ask{Kind: api.AskJoin, User: s, Password: s})
		lookAtRead(t, kind, e, api.Ask{Kind: api.AskJoin, User: trimmed(s), Password: s}, api.OK)
	}
}

// P10.5: entries that may be come back, all in their order; with one that may not be none comes.
func TestRostersThereAndBack(t *testing.T) {
	var all []api.Entry
	for _, s := range goodTexts() {
		for act := 1; act <= 3; act++ {
			l := []api.Entry{{Act: act, Jid: api.Jid{Node: "a", Domain: "b"}, Name: s, Group: s}, {Act: act%3 + 1, Jid: api.Jid{Domain: "c.d-e"}, Name: s}, {Act: act, Jid: api.Jid{Domain: "b", Resource: " @/'<"}, Group: s}}
			if j := (api.Jid{Node: s, Domain: "b", Resource: s}); jid.Check(j) == api.OK {
				l = append(l, api.Entry{Act: act, Jid: j})
			}
			lookAtEntries(t, overStream(t, Roster(l)), l, api.OK)
			all = append(all, l...)
		}
	}
	lookAtEntries(t, Roster(all), all, api.OK)
	lookAtEntries(t, Roster(nil), nil, api.OK)
	one := api.Jid{Domain: "b"}
	for _, n := range []api.Entry{{Act: 1}, {Act: 2, Jid: api.Jid{Node: "a"}}, {Act: 1, Jid: api.Jid{Node: "a b", Domain: "b"}}, {Act: 3, Jid: api.Jid{Domain: "b", Resource: "\n"}}} {
		lookAtEntries(t, Roster([]api.Entry{{Act: 1, Jid: one}, n, {Act: 1, Jid: one}}), nil, api.ErrLoad)
	}
}

// What is handed in is not changed, and shares nothing with what is answered, nor do two answers, spare room neither.
func TestAnswersAreApart(t *testing.T) {
	calls := []func() api.Elem{
		func() api.Elem { _, e := Put(api.Ask{Kind: api.AskJoin, User: "a", Password: "b"}); return e },
		func() api.Elem { _, e := Put(api.Ask{Kind: api.AskLeave}); return e },
		func() api.Elem { _, e := Put(api.Ask{Kind: api.AskName, Text: "a"}); return e },
		func() api.Elem { return Form(true, "a") },
		func() api.Elem { return Form(false, "a") },
		Hint,
		func() api.Elem { return Name(api.Jid{Domain: "b"}) },
		func() api.Elem { return Info(true) },
		func() api.Elem { return Info(false) },
		Items,
		func() api.Elem { return Last(7) },
		func() api.Elem {
			return Roster([]api.Entry{{Act: 1, Jid: api.Jid{Domain: "b"}, Group: "g"}, {Act: 2, Name: "n", Group: "h"}})
		},
	}
	for i, call := range calls {
		one, two := call(), call()
		text := tag.Put(one, "")
		spoil([]api.Elem{one})
		if tag.Put(two, "") != text || tag.Put(call(), "") != text {
			t.Fatalf("call %d: answers share memory", i)
		}
		for _, e := range two.Kids[len(two.Kids):cap(two.Kids)] {
			if e.Name == "!" {
				t.Fatalf("call %d: answers share spare room", i)
			}
		}
		for at := 1; at < len(two.Kids); at++ {
			spoil(slices.Clone(two.Kids[:at]))
			if strings.Contains(tag.Put(two.Kids[at], ""), "!") {
				t.Fatalf("call %d: kids share memory", i)
			}
		}
	}
	unchanged(t, elem(register, "query", word(register, "username", " a "), word(register, "password", "b")), func(e api.Elem) { Read("set", e) })
	unchanged(t, elem(gateway, "query", word(gateway, "prompt", " a ")), func(e api.Elem) { Read("set", e) })
	unchanged(t, elem(rosterx, "x", told([]api.Elem{word(rosterx, "group", "g")}, "jid", "A@B."), told(nil, "jid", "c")), func(e api.Elem) {
		one, _ := Entries(e)
		two, _ := Entries(e)
		clear(one[:cap(one)])
		if two[0] != (api.Entry{Act: 1, Jid: api.Jid{Node: "a", Domain: "b"}, Group: "g"}) {
			t.Fatal("answers share memory")
		}
	})
	l := append(make([]api.Entry, 0, 8), api.Entry{Act: 1, Jid: api.Jid{Domain: "B"}, Name: "n", Group: "g"})
	was := slices.Clone(l[:8])
	Roster(l)
	if !slices.Equal(l[:8], was) {
		t.Fatal("a list was changed")
	}
}

// Whatever is handed in, each call ends and none panics.
func TestStrangeArguments(t *testing.T) {
	steep := elem(register, "remove")
	for range 1 << 16 {
		steep = elem(register, "remove", steep)
	}
	folded := elem(register, "remove") // each holds the one below it twice: too many to be gone through
	for range 60 {
		folded = elem(register, "remove", folded, folded)
	}
	for _, e := range []api.Elem{steep, folded} {
		if a, err := Read("set", elem(register, "query", e)); a != (api.Ask{Kind: api.AskLeave}) || err != api.OK {
			t.Fatal(a, err)
		}
		if a, err := Read("set", elem(gateway, "query", api.Elem{Space: gateway, Name: "prompt", Text: "x", Kids: []api.Elem{e}})); a != (api.Ask{Kind: api.AskName, Text: "x"}) || err != api.OK {
			t.Fatal(a, err)
		}
		l, err := Entries(elem(rosterx, "x", e, told([]api.Elem{{Space: rosterx, Name: "group", Text: "g", Kids: []api.Elem{e}}}, "jid", "b")))
		if err != api.OK || len(l) != 1 || l[0].Group != "g" {
			t.Fatal(cut(l), err)
		}
	}
	const many = 1 << 18
	if l, err := Entries(elem(rosterx, "x", slices.Repeat([]api.Elem{told(nil, "jid", "b")}, many)...)); err != api.OK || len(l) != many {
		t.Fatal(len(l), err)
	}
	if a, err := Read("set", elem(register, "query", append(slices.Repeat([]api.Elem{elem("q", "k")}, many), elem(register, "remove"))...)); a.Kind != api.AskLeave || err != api.OK {
		t.Fatal(a, err)
	}
	if e := Roster(make([]api.Entry, many)); len(e.Kids) != many || len(e.Kids[many-1].Attrs) != 0 {
		t.Fatal(cut(e))
	}
}

// All are pure functions: the same every time, also at the same time.
func TestPure(t *testing.T) {
	l := []api.Entry{{Act: 1, Jid: api.Jid{Domain: "b"}, Name: "n", Group: "g"}}
	e := elem(register, "query", word(register, "username", " a "), word(register, "password", "b"))
	want := tag.Put(elem("", "all", Form(true, "a"), Hint(), Info(true), Info(false), Items(), Last(9), Roster(l)), "")
	var all sync.WaitGroup
	for range 8 {
		all.Go(func() {
			for range 300 {
				a, err := Read("set", e)
				back, no := Entries(Roster(l))
				if err != api.OK || a != (api.Ask{Kind: api.AskJoin, User: "a", Password: "b"}) || no != api.OK || !slices.Equal(back, l) ||
					tag.Put(elem("", "all", Form(true, "a"), Hint(), Info(true), Info(false), Items(), Last(9), Roster(l)), "") != want {
					t.Error("another answer")
				}
			}
		})
	}
	all.Wait()
}

// Each element that is answered may be, as long as its texts are texts.
func TestAnswersMayBe(t *testing.T) {
	for _, s := range goodTexts() {
		list := []api.Elem{Form(true, s), Hint(), Name(api.Jid{Node: "a", Domain: "b"}), Info(true), Info(false), Items(), Last(int64(len(s))), Roster([]api.Entry{{Act: 1, Jid: api.Jid{Domain: "b"}, Name: s, Group: s}})}
		for kind := 1; kind <= 8; kind++ {
			_, e := Put(api.Ask{Kind: kind, User: s, Password: s, Text: s})
			list = append(list, e)
		}
		for _, e := range list {
			if tag.Check(e) != api.OK {
				t.Fatalf("%s may not be", cut(e))
			}
		}
	}
}

// The chapter's examples.
func TestExamples(t *testing.T) {
	a, err := Read("set", elem(api.SpRegister, "query", elem(api.SpRegister, "remove")))
	if a != (api.Ask{Kind: api.AskLeave}) || err != api.OK {
		t.Fatal(a, err)
	}
	if s := tag.Attr(Last(60), "seconds"); s != "60" {
		t.Fatal(s)
	}
}
