package ssi

import (
	"math/rand"
	"reflect"
	"slices"
	"strings"
	"sync"
	"testing"
	"unsafe"

	"wharf/api"
	"wharf/legacy"
	"wharf/list"
)

func group(g int, name string) api.Item { return api.Item{Type: api.ItemGroup, Group: g, Name: name} }

func buddy(g, id int, name string) api.Item { return api.Item{Group: g, Id: id, Name: name} }

func add(name string) api.Wish { return api.Wish{Kind: api.WiAdd, Name: name} }

func del(name string) api.Wish { return api.Wish{Kind: api.WiDel, Name: name} }

func call(name, alias string) api.Wish {
	return api.Wish{Kind: api.WiName, Name: name, Alias: alias}
}

// small is a list that may be: groups with buddies and without, one who is awaited, one with an alias.
func small() api.List {
	ann := api.Item{Group: 3, Id: 2, Name: "ann", Alias: "Ann\u00e9", Await: true}
	return api.List{Time: 7, Items: []api.Item{group(1, "Friends"), buddy(1, 1, "Joe B"), buddy(1, 2, "bob"), buddy(1, 4, "12345"), group(3, "Buddies"), ann, group(65535, "Empty")}}
}

// waiting is a part with the list small, of which these wishes wait.
func waiting(wishes ...api.Wish) api.Ssi { return api.Ssi{List: small(), Wishes: wishes} }

// underWay is a part whose first wish came to a change.
func underWay(t *testing.T, wishes ...api.Wish) api.Ssi {
	t.Helper()
	s, _, _ := lookAtNext(t, waiting(wishes...))
	if !s.Busy {
		t.Fatal(tell(s))
	}
	return s
}

// copied is s in other memory, which its calls do not change.
func copied(s api.Ssi) api.Ssi { return evened(answer{s: s}).s }

func hold(t *testing.T, what string, s, kept api.Ssi, got, want answer) {
	t.Helper()
	if !alike(got, want) {
		t.Fatalf("%s of %s: %s, not %s", what, tell(kept), tell(got), tell(want))
	}
	if !alike(answer{s: s}, answer{s: kept}) {
		t.Fatalf("%s of %s left %s", what, tell(kept), tell(s))
	}
}

func lookAtWant(t *testing.T, s api.Ssi, w api.Wish) (api.Ssi, api.Errno) {
	t.Helper()
	kept := copied(s)
	got, err := Want(s, w)
	want, wantErr := wantOf(kept, w)
	if err != wantErr {
		t.Fatalf("Want(%s, %s): %v, not %v", tell(kept), tell(w), err, wantErr)
	}
	hold(t, "Want", s, kept, answer{s: got}, answer{s: want})
	return got, err
}

func lookAtNext(t *testing.T, s api.Ssi) (api.Ssi, []api.Note, []api.Deal) {
	t.Helper()
	kept := copied(s)
	got := answerOf(Next(s))
	hold(t, "Next", s, kept, got, answerOf(nextOf(kept)))
	mayBeSaid(t, got.said)
	return got.s, got.said, got.deals
}

func lookAtAck(t *testing.T, s api.Ssi, codes ...int) (api.Ssi, []api.Note, []api.Deal) {
	t.Helper()
	kept, keptCodes := copied(s), slices.Clone(codes)
	got := answerOf(Ack(s, codes))
	hold(t, "Ack", s, kept, got, answerOf(ackOf(kept, keptCodes)))
	if !slices.Equal(codes, keptCodes) {
		t.Fatalf("Ack left the codes %v, not %v", codes, keptCodes)
	}
	mayBeSaid(t, got.said)
	return got.s, got.said, got.deals
}

func lookAtLoad(t *testing.T, s api.Ssi, l api.List) api.Ssi {
	t.Helper()
	kept, keptList := copied(s), api.List{Items: slices.Clone(l.Items), Time: l.Time}
	got := Load(s, l)
	hold(t, "Load", s, kept, answer{s: got}, answer{s: loadOf(kept, keptList)})
	if !list.Same(l, keptList) {
		t.Fatalf("Load left the list %s, not %s", tell(l), tell(keptList))
	}
	return got
}

func lookAtMark(t *testing.T, s api.Ssi, name string, await bool) api.Ssi {
	t.Helper()
	kept := copied(s)
	got := Mark(s, name, await)
	hold(t, "Mark", s, kept, answer{s: got}, answer{s: markOf(kept, name, await)})
	return got
}

// mayBeSaid holds what is said against what may go over a legacy connection.
func mayBeSaid(t *testing.T, said []api.Note) {
	t.Helper()
	for _, n := range said {
		if legacy.Check(n) != api.OK {
			t.Fatal(tell(n))
		}
	}
}

// P18.1: wishes that may be, and the ends of what may be.
func TestCheckOfGoodWishes(t *testing.T) {
	x := func(n int) string { return strings.Repeat("x", n) }
	for _, w := range []api.Wish{
		add("joe"), del("joe"), call("joe", ""), call("joe", "J"), add("J o E"), add("12345"), del("joe@mac.com"), add(x(16)), call("123456789", x(64)), call("joe", "\t\u00e9\U0001f600"),
		{Kind: 1, Name: "joe", Alias: "J", Group: "Friends", Await: true}, {Kind: 1, Name: "joe", Await: true}, {Kind: 1, Name: "joe", Alias: x(64), Group: x(64)}, {Kind: 1, Name: "joe", Group: x(62) + "\u00e9"}, {Kind: 1, Name: "joe", Group: " "},
	} {
		if err := Check(w); err != api.OK || checkOf(w) != api.OK {
			t.Error(tell(w), err)
		}
	}
}

// P18.1: wishes that may not be, each for one reason.
func TestCheckOfBadWishes(t *testing.T) {
	x := func(n int) string { return strings.Repeat("x", n) }
	for _, w := range []api.Wish{
		{}, {Name: "joe"}, {Kind: 4, Name: "joe"}, {Kind: -1, Name: "joe"}, {Kind: 1 << 32, Name: "joe"}, {Kind: 1<<32 + 1, Name: "joe"}, {Kind: api.LgAdd, Name: "joe"},
		add(""), add("jo"), add("joe "), add(" joe"), add("01234"), add("1234"), add(x(17)), add("joe\xff"), del(""), del("jo"), del("a@b@c"), call("", "J"), call("jo", "J"),
		{Kind: 1, Name: "joe", Alias: x(65)}, {Kind: 1, Name: "joe", Alias: "\x00"}, {Kind: 1, Name: "joe", Alias: "\xff"}, {Kind: 1, Name: "joe", Alias: "\ufffe"}, call("joe", x(65)), call("joe", x(63)+"\u00e9"), call("joe", "\x1f"),
		{Kind: 1, Name: "joe", Group: x(65)}, {Kind: 1, Name: "joe", Group: "\x00"}, {Kind: 1, Name: "joe", Group: "\xc3"}, {Kind: 1, Name: "joe", Group: x(63) + "\u00e9"},
		{Kind: 2, Name: "joe", Alias: "J"}, {Kind: 2, Name: "joe", Alias: " "}, {Kind: 2, Name: "joe", Group: "Friends"}, {Kind: 2, Name: "joe", Group: "Buddies"}, {Kind: 2, Name: "joe", Await: true},
		{Kind: 3, Name: "joe", Group: "Friends"}, {Kind: 3, Name: "joe", Alias: "J", Group: " "}, {Kind: 3, Name: "joe", Await: true}, {Kind: 3, Name: "joe", Alias: "J", Await: true},
	} {
		if err := Check(w); err != api.ErrArg || checkOf(w) != api.ErrArg {
			t.Error(tell(w), err)
		}
	}
}

// P18.1: all that comes of some values a field.
func TestCheckOfAllWishes(t *testing.T) {
	seen := map[api.Errno]int{}
	look := func(w api.Wish) {
		err := Check(w)
		seen[err]++
		if want := checkOf(w); err != want {
			t.Fatalf("Check(%s): %v, not %v", tell(w), err, want)
		}
	}
	for kind := -1; kind <= 5; kind++ {
		for _, await := range []bool{false, true} {
			for _, alias := range titles() {
				for _, group := range titles() {
					look(api.Wish{Kind: kind, Name: "joe", Alias: alias, Group: group, Await: await})
				}
				for _, name := range names() {
					look(api.Wish{Kind: kind, Name: name, Alias: alias, Await: await})
				}
			}
		}
	}
	for _, kind := range numbers() {
		look(api.Wish{Kind: kind, Name: "joe"})
	}
	for c := range 256 {
		for _, s := range []string{string([]byte{byte(c)}), "a" + string([]byte{byte(c)}) + "b"} {
			look(api.Wish{Kind: 1, Name: "joe", Alias: s})
			look(api.Wish{Kind: 1, Name: "joe", Group: s})
			look(api.Wish{Kind: 2, Name: "joe", Alias: s})
			look(api.Wish{Kind: 3, Name: "joe", Alias: s})
		}
	}
	if seen[api.OK] < 1000 || seen[api.ErrArg] < 1000 {
		t.Fatal(seen)
	}
}

// P18.2: as many as may wait, each behind those ahead of it; one more is refused, and so is one that may not be.
func TestWant(t *testing.T) {
	s := api.Ssi{List: small()}
	var wanted []api.Wish
	for i := range api.MaxQueue {
		w := api.Wish{Kind: 1, Name: "joe" + string(rune('a'+i)), Alias: "A", Group: "G", Await: i%2 == 0}
		wanted = append(wanted, w)
		var err api.Errno
		if s, err = lookAtWant(t, s, w); err != api.OK || !slices.Equal(s.Wishes, wanted) {
			t.Fatal(i, tell(s), err)
		}
		if same, err := lookAtWant(t, s, add("jo")); err != api.ErrArg || !reflect.DeepEqual(same, s) {
			t.Fatal(i, tell(same), err)
		}
	}
	if same, err := lookAtWant(t, s, add("joe")); err != api.ErrFull || !reflect.DeepEqual(same, s) {
		t.Fatal(tell(same), err)
	}
	if same, err := lookAtWant(t, s, api.Wish{Kind: 4, Name: "joe"}); err != api.ErrArg || !reflect.DeepEqual(same, s) {
		t.Fatal("that it may not be is asked first:", tell(same), err)
	}
	if !list.Same(s.List, small()) || s.Busy || s.Kind != 0 || s.Items != nil || s.Wish != (api.Wish{}) {
		t.Fatal(tell(s))
	}
}

// P18.2: while a change is under way, the one that is carried out is none of those that wait; one that is wanted anew is.
func TestWantOfMoreThanMayWait(t *testing.T) {
	s := underWay(t, add("eve"))
	for range api.MaxQueue {
		s, _ = lookAtWant(t, s, del("bob"))
	}
	if _, err := lookAtWant(t, s, del("bob")); len(s.Wishes) != 20 || err != api.ErrFull {
		t.Fatal(len(s.Wishes), err)
	}
	asked, _, _ := lookAtAck(t, s, api.AckAuth)
	loaded := lookAtLoad(t, s, small())
	for _, more := range []api.Ssi{asked, loaded} {
		if _, err := lookAtWant(t, more, del("bob")); len(more.Wishes) != 21 || err != api.ErrFull {
			t.Fatal(len(more.Wishes), err)
		}
	}
}

// P18.2: any part, and any wish.
func TestWantAtRandom(t *testing.T) {
	r := rand.New(rand.NewSource(182))
	seen := map[api.Errno]int{}
	for range 5000 {
		s, w := randomSsi(r), randomWish(r)
		for range r.Intn(30) {
			s.Wishes = append(s.Wishes, randomWish(r))
		}
		switch r.Intn(8) {
		case 0:
			w.Name = pick(r, names()...)
		case 1:
			w.Alias = pick(r, titles()...)
		case 2:
			w.Kind = r.Intn(6) - 1
		}
		_, err := lookAtWant(t, s, w)
		seen[err]++
	}
	if seen[api.OK] < 500 || seen[api.ErrArg] < 500 || seen[api.ErrFull] < 500 {
		t.Fatal(seen)
	}
}

// P18.3, P18.4: what a wish comes to, written out.
func TestNextOfOneWish(t *testing.T) {
	named := func(it api.Item, alias string, await bool) api.Item {
		it.Alias, it.Await = alias, await
		return it
	}
	ann := small().Items[5]
	for _, c := range []struct {
		w     api.Wish
		kind  int
		items []api.Item
	}{
		{add("eve"), api.LgAdd, []api.Item{buddy(3, 1, "eve")}},
		{add("E v E"), api.LgAdd, []api.Item{buddy(3, 1, "E v E")}},
		{add("joe"), api.LgAdd, []api.Item{buddy(3, 1, "joe")}},
		{add("Friends"), api.LgAdd, []api.Item{buddy(3, 1, "Friends")}},
		{api.Wish{Kind: 1, Name: "eve", Alias: "E", Await: true}, api.LgAdd, []api.Item{named(buddy(3, 1, "eve"), "E", true)}},
		{api.Wish{Kind: 1, Name: "eve", Group: "Buddies"}, api.LgAdd, []api.Item{buddy(3, 1, "eve")}},
		{api.Wish{Kind: 1, Name: "eve", Group: "Friends"}, api.LgAdd, []api.Item{buddy(1, 3, "eve")}},
		{api.Wish{Kind: 1, Name: "eve", Group: "Empty"}, api.LgAdd, []api.Item{buddy(65535, 1, "eve")}},
		{api.Wish{Kind: 1, Name: "eve", Group: "friends", Alias: "E", Await: true}, api.LgAdd, []api.Item{group(2, "friends"), named(buddy(2, 1, "eve"), "E", true)}},
		{api.Wish{Kind: 1, Name: "eve", Group: " "}, api.LgAdd, []api.Item{group(2, " "), buddy(2, 1, "eve")}},
		{api.Wish{Kind: 1, Name: "eve", Group: "eve"}, api.LgAdd, []api.Item{group(2, "eve"), buddy(2, 1, "eve")}},
		{api.Wish{Kind: 1, Name: "eve", Group: "Joe B"}, api.LgAdd, []api.Item{group(2, "Joe B"), buddy(2, 1, "eve")}},
		{del("joe b"), api.LgDel, []api.Item{buddy(1, 1, "Joe B")}},
		{del("A N N"), api.LgDel, []api.Item{ann}},
		{del("12345"), api.LgDel, []api.Item{buddy(1, 4, "12345")}},
		{call("JOEB", "J"), api.LgSet, []api.Item{named(buddy(1, 1, "Joe B"), "J", false)}},
		{call("ann", "Ann"), api.LgSet, []api.Item{named(ann, "Ann", true)}},
		{call("Ann", ""), api.LgSet, []api.Item{named(ann, "", true)}},
	} {
		s, said, deals := lookAtNext(t, waiting(c.w))
		want := []api.Note{{Kind: api.LgBegin}, {Kind: c.kind, Items: c.items}, {Kind: api.LgEnd}}
		if !reflect.DeepEqual(said, want) || len(deals) != 0 {
			t.Errorf("Next(%s): %s %s", tell(c.w), tell(said), tell(deals))
		}
		if !s.Busy || s.Kind != c.kind || !slices.Equal(s.Items, c.items) || s.Wish != c.w || len(s.Wishes) != 0 || !list.Same(s.List, small()) {
			t.Errorf("Next(%s): %s", tell(c.w), tell(s))
		}
	}
}

// P18.3, P18.4: wishes that come to nothing, written out.
func TestNextOfNothing(t *testing.T) {
	for _, c := range []struct {
		w    api.Wish
		code int
	}{
		{add("Joe B"), api.AckOk}, {add("joeb"), api.AckOk}, {add("BOB"), api.AckOk}, {api.Wish{Kind: 1, Name: "bob", Alias: "B", Group: "new"}, api.AckOk}, {api.Wish{Kind: 1, Name: "bob", Await: true}, api.AckOk},
		{add("ann"), api.AckAuth}, {api.Wish{Kind: 1, Name: "A nn", Alias: "A", Group: "Friends"}, api.AckAuth}, {api.Wish{Kind: 1, Name: "ann", Await: true}, api.AckAuth},
		{del("joe"), api.AckNone}, {del("Friends"), api.AckNone}, {del("123456"), api.AckNone}, {del("Buddies"), api.AckNone},
		{call("joe", ""), api.AckNone}, {call("joe", "J"), api.AckNone}, {call("Empty", "E"), api.AckNone},
		{call("joe b", ""), api.AckOk}, {call("Ann", "Ann\u00e9"), api.AckOk},
	} {
		s, said, deals := lookAtNext(t, waiting(c.w))
		if len(said) != 0 || !slices.Equal(deals, []api.Deal{{Wish: c.w, Code: c.code}}) || !alike(answer{s: s}, answer{s: waiting()}) {
			t.Errorf("Next(%s): %s %s %s", tell(c.w), tell(s), tell(said), tell(deals))
		}
	}
}

// P18.3: around as many items as may be, into a group that there is and into a new one.
func TestNextOfAsManyAsMayBe(t *testing.T) {
	for _, c := range []struct {
		size int
		w    api.Wish
		many bool
	}{
		{97, add("eve"), false}, {98, add("eve"), false}, {99, add("eve"), true}, {100, add("eve"), true},
		{98, api.Wish{Kind: 1, Name: "eve", Group: "g2"}, false}, {99, api.Wish{Kind: 1, Name: "eve", Group: "g2"}, false}, {100, api.Wish{Kind: 1, Name: "eve", Group: "g2"}, true},
		{98, api.Wish{Kind: 1, Name: "eve", Group: "G2"}, false}, {99, api.Wish{Kind: 1, Name: "eve", Group: "G2"}, true},
	} {
		s, said, deals := lookAtNext(t, api.Ssi{List: full(c.size), Wishes: []api.Wish{c.w}})
		if c.many && (len(said) != 0 || s.Busy || !slices.Equal(deals, []api.Deal{{Wish: c.w, Code: api.AckMany}})) || !c.many && (len(said) != 3 || !s.Busy || len(deals) != 0) {
			t.Errorf("%d items, %s: %s %s", c.size, tell(c.w), tell(said), tell(deals))
		}
	}
	for _, c := range []struct {
		w    api.Wish
		code int
		kind int
	}{{add("b1.1."), api.AckOk, 0}, {call("B1.1.", ""), api.AckOk, 0}, {del("none"), api.AckNone, 0}, {del("b1.1."), 0, api.LgDel}, {call("b1.1.", "B"), 0, api.LgSet}} {
		s, _, deals := lookAtNext(t, api.Ssi{List: full(100), Wishes: []api.Wish{c.w}})
		if s.Kind != c.kind || len(deals) != 0 && deals[0].Code != c.code || (len(deals) == 0) != s.Busy {
			t.Errorf("%s: %s %s", tell(c.w), tell(s), tell(deals))
		}
	}
}

// P18.4: those that come to nothing are passed over, one comes to a change, and no further one is taken.
func TestNextPassesOver(t *testing.T) {
	s, said, deals := lookAtNext(t, waiting(del("none"), add("ann"), add("bob"), add("eve"), del("none"), del("bob")))
	if want := []api.Deal{{Wish: del("none"), Code: api.AckNone}, {Wish: add("ann"), Code: api.AckAuth}, {Wish: add("bob"), Code: api.AckOk}}; !slices.Equal(deals, want) {
		t.Fatal(tell(deals))
	}
	if len(said) != 3 || s.Wish != add("eve") || !slices.Equal(s.Wishes, []api.Wish{del("none"), del("bob")}) {
		t.Fatal(tell(said), tell(s))
	}
	same, said, deals := lookAtNext(t, s)
	if len(said) != 0 || len(deals) != 0 || !reflect.DeepEqual(same, s) {
		t.Fatal("one is under way:", tell(said), tell(deals), tell(same))
	}
	s, said, deals = lookAtNext(t, waiting(slices.Repeat([]api.Wish{del("none")}, 21)...))
	if len(said) != 0 || len(deals) != 21 || s.Busy || len(s.Wishes) != 0 {
		t.Fatal(tell(said), tell(deals), tell(s))
	}
	s, said, deals = lookAtNext(t, waiting())
	if len(said) != 0 || len(deals) != 0 || !alike(answer{s: s}, answer{s: waiting()}) {
		t.Fatal(tell(said), tell(deals), tell(s))
	}
}

// P18.3, P18.4: any part.
func TestNextAtRandom(t *testing.T) {
	r := rand.New(rand.NewSource(184))
	began, passed := map[int]int{}, map[int]int{}
	for range 20000 {
		s := randomSsi(r)
		if r.Intn(8) == 0 {
			s.List = full(96 + r.Intn(5))
		}
		busy := s.Busy
		s, said, deals := lookAtNext(t, s)
		if !busy && s.Busy != (len(said) == 3) || busy && len(said)+len(deals) != 0 {
			t.Fatal(tell(s), tell(said), tell(deals))
		}
		if !busy {
			began[s.Kind]++
		}
		for _, d := range deals {
			passed[d.Code]++
		}
	}
	for _, kind := range []int{0, api.LgAdd, api.LgSet, api.LgDel} {
		if began[kind] < 300 {
			t.Fatal(began)
		}
	}
	for _, code := range []int{api.AckOk, api.AckNone, api.AckMany, api.AckAuth} {
		if passed[code] < 200 {
			t.Fatal(passed)
		}
	}
}

// P18.5: how a change of one item went, written out.
func TestAckOfOneItem(t *testing.T) {
	awaited := api.Wish{Kind: 1, Name: "eve", Await: true}
	for _, c := range []struct {
		w    api.Wish
		code int
		done bool
		asks bool
	}{
		{add("eve"), api.AckOk, true, false}, {add("eve"), api.AckThere, false, false}, {add("eve"), api.AckAuth, false, true}, {add("eve"), -1, false, false}, {add("eve"), 1<<32 + 14, false, false}, {add("eve"), 1 << 32, false, false},
		{awaited, api.AckOk, true, false}, {awaited, api.AckAuth, false, false}, {awaited, api.AckMany, false, false},
		{del("bob"), api.AckOk, true, false}, {del("bob"), api.AckAuth, false, false}, {del("bob"), api.AckNone, false, false},
		{call("bob", "B"), api.AckOk, true, false}, {call("bob", "B"), api.AckAuth, false, false}, {call("bob", "B"), api.AckBad, false, false},
	} {
		before := underWay(t, c.w, del("ann"), add("mia"))
		s, said, deals := lookAtAck(t, before, c.code)
		wishes := []api.Wish{del("ann"), add("mia")}
		if c.asks {
			wishes = slices.Concat([]api.Wish{awaited}, wishes)
		}
		if !alike(answer{s: s}, answer{s: api.Ssi{List: s.List, Wishes: wishes}}) {
			t.Errorf("%s, %d: %s", tell(c.w), c.code, tell(s))
		}
		want := small()
		if c.done {
			want, _ = list.Apply(want, before.Kind, before.Items[0])
		}
		if !list.Same(s.List, want) || c.done == list.Same(s.List, small()) {
			t.Errorf("%s, %d: %s", tell(c.w), c.code, tell(s.List))
		}
		if c.asks && (!reflect.DeepEqual(said, []api.Note{{Kind: api.LgAskAuth, Name: "eve"}}) || len(deals) != 0) || !c.asks && (len(said) != 0 || !slices.Equal(deals, []api.Deal{{Wish: c.w, Code: c.code}})) {
			t.Errorf("%s, %d: %s %s", tell(c.w), c.code, tell(said), tell(deals))
		}
	}
}

// P18.5: a group and a buddy in it: each code of both.
func TestAckOfTwoItems(t *testing.T) {
	for _, await := range []bool{false, true} {
		w := api.Wish{Kind: 1, Name: "eve", Group: "new", Alias: "E", Await: await}
		for _, c := range []struct{ group, buddy, items, code int }{
			{0, 0, 9, 0}, {0, 3, 8, 3}, {3, 0, 7, 3}, {3, 10, 7, 10}, {10, 3, 7, 3}, {14, 0, 7, 14}, {14, 2, 7, 2}, {0, -1, 8, -1}, {-1, 0, 7, -1}, {12, 12, 7, 12},
		} {
			s, said, deals := lookAtAck(t, underWay(t, w, add("mia")), c.group, c.buddy)
			if len(s.List.Items) != c.items || s.Busy || !slices.Equal(s.Wishes, []api.Wish{add("mia")}) || len(said) != 0 || !slices.Equal(deals, []api.Deal{{Wish: w, Code: c.code}}) {
				t.Errorf("%d %d: %s %s %s", c.group, c.buddy, tell(s), tell(said), tell(deals))
			}
		}
		for _, first := range []int{0, 3, 14} {
			s, said, deals := lookAtAck(t, underWay(t, w, add("mia")), first, api.AckAuth)
			if await && (len(s.Wishes) != 1 || len(said) != 0 || !slices.Equal(deals, []api.Deal{{Wish: w, Code: api.AckAuth}})) {
				t.Errorf("%d: %s %s %s", first, tell(s), tell(said), tell(deals))
			}
			again := w
			again.Await = true
			if !await && (!slices.Equal(s.Wishes, []api.Wish{again, add("mia")}) || len(said) != 1 || len(deals) != 0) {
				t.Errorf("%d: %s %s %s", first, tell(s), tell(said), tell(deals))
			}
		}
	}
}

// P18.5: codes of another number than the items, and codes of nothing.
func TestAckOfOthers(t *testing.T) {
	one, two := underWay(t, del("bob")), underWay(t, api.Wish{Kind: 1, Name: "eve", Group: "new"})
	for _, c := range []struct {
		s     api.Ssi
		codes []int
	}{
		{api.Ssi{}, nil}, {api.Ssi{}, []int{0}}, {waiting(del("bob")), []int{0}}, {waiting(del("bob")), nil}, {waiting(add("eve")), []int{api.AckAuth}},
		{one, nil}, {one, []int{}}, {one, []int{0, 0}}, {one, []int{14, 14, 14}}, {two, nil}, {two, []int{0}}, {two, []int{14}}, {two, []int{0, 0, 0}}, {two, make([]int, 100)},
	} {
		if s, said, deals := lookAtAck(t, c.s, c.codes...); len(said) != 0 || len(deals) != 0 || !alike(answer{s: s}, answer{s: c.s}) {
			t.Errorf("%s, %v: %s %s %s", tell(c.s), c.codes, tell(s), tell(said), tell(deals))
		}
	}
}

// P18.5: a change that the list does not take leaves it, though the server has acknowledged it.
func TestAckOfWhatTheListDoesNotTake(t *testing.T) {
	s := underWay(t, api.Wish{Kind: 1, Name: "eve", Group: "new"})
	got, _, deals := lookAtAck(t, s, api.AckMany, api.AckOk)
	if !list.Same(got.List, small()) || len(deals) != 1 || deals[0].Code != api.AckMany {
		t.Fatal(tell(got), tell(deals))
	}
	s.List = full(100)
	got, _, deals = lookAtAck(t, s, api.AckOk, api.AckOk)
	if !list.Same(got.List, full(100)) || len(deals) != 1 || deals[0].Code != api.AckOk {
		t.Fatal(tell(got), tell(deals))
	}
}

// P18.5: any part, and any codes.
func TestAckAtRandom(t *testing.T) {
	r := rand.New(rand.NewSource(185))
	asked, done := 0, map[int]int{}
	for range 20000 {
		s := randomSsi(r)
		size := len(s.Items)
		if r.Intn(10) == 0 {
			size = r.Intn(4)
		}
		s, said, deals := lookAtAck(t, s, randomCodes(r, size)...)
		if list.Check(s.List) != api.OK {
			t.Fatal(tell(s))
		}
		asked += len(said)
		for _, d := range deals {
			done[d.Code]++
		}
	}
	for _, code := range []int{api.AckOk, api.AckNone, api.AckThere, api.AckBad, api.AckMany, api.AckAuth, -1, 1 << 32} {
		if done[code] < 50 || asked < 300 {
			t.Fatal(asked, done)
		}
	}
}

// P18.6: a list is laid in; a change under way is wanted anew, ahead of all others.
func TestLoad(t *testing.T) {
	l := api.List{Time: 9, Items: []api.Item{group(2, "g"), buddy(2, 7, "tim")}}
	w := api.Wish{Kind: 1, Name: "eve", Alias: "E", Group: "new", Await: true}
	for _, c := range []struct {
		s      api.Ssi
		wishes []api.Wish
	}{
		{api.Ssi{}, nil}, {waiting(), nil}, {waiting(del("bob"), add("ann")), []api.Wish{del("bob"), add("ann")}},
		{underWay(t, del("bob")), []api.Wish{del("bob")}}, {underWay(t, w, del("bob"), w), []api.Wish{w, del("bob"), w}}, {underWay(t, add("bob"), call("bob", "B"), w), []api.Wish{call("bob", "B"), w}},
	} {
		for _, m := range []api.List{{}, l, small(), full(100)} {
			if s := lookAtLoad(t, c.s, m); !alike(answer{s: s}, answer{s: api.Ssi{List: m, Wishes: c.wishes}}) {
				t.Errorf("%s: %s", tell(c.s), tell(s))
			}
		}
	}
	r := rand.New(rand.NewSource(186))
	for range 3000 {
		lookAtLoad(t, randomSsi(r), randomList(r))
	}
}

// P18.6: the buddy of that name is awaited or is not, and nobody else; what else there is stays.
func TestMark(t *testing.T) {
	for _, c := range []struct {
		name  string
		await bool
		at    int
	}{
		{"JOE B", true, 1}, {"joeb", true, 1}, {"bob", true, 2}, {"12345", true, 3}, {"a n n", false, 5}, {"Joe B", false, -1}, {"ann", true, -1},
		{"joe", true, -1}, {"Friends", true, -1}, {"Buddies", true, -1}, {"Empty", true, -1}, {"", true, -1}, {" ", true, -1}, {"\xff", true, -1}, {strings.Repeat("x", 1<<20), true, -1},
	} {
		for _, s := range []api.Ssi{waiting(), waiting(add("bob")), underWay(t, call("joe b", "J"), del("ann"))} {
			want := copied(s)
			if c.at >= 0 {
				want.List.Items[c.at].Await = c.await
			}
			if got := lookAtMark(t, s, c.name, c.await); !alike(answer{s: got}, answer{s: want}) {
				t.Errorf("Mark(%q, %t): %s", c.name, c.await, tell(got))
			}
		}
	}
	r := rand.New(rand.NewSource(187))
	for range 5000 {
		s := lookAtMark(t, randomSsi(r), pick(r, "joe", "J OE", "bob", "ann", "eve", "12345", "g", "Work"), r.Intn(2) == 0)
		if list.Check(s.List) != api.OK {
			t.Fatal(tell(s))
		}
	}
}

// life has what was wanted and not dealt with yet.
type life struct {
	t    *testing.T
	s    api.Ssi
	open []api.Wish
}

// dealt takes each deal for the first wish that is open; that has come to be awaited, if the server has asked for it.
func (a *life) dealt(deals []api.Deal) {
	a.t.Helper()
	for _, d := range deals {
		if len(a.open) == 0 {
			a.t.Fatal("nothing was wanted:", tell(d))
		}
		awaited := a.open[0]
		awaited.Await = awaited.Kind == api.WiAdd
		if d.Wish != a.open[0] && d.Wish != awaited {
			a.t.Fatalf("%s, not %s", tell(d), tell(a.open[0]))
		}
		a.open = a.open[1:]
	}
}

func (a *life) want(w api.Wish) {
	a.t.Helper()
	s, err := lookAtWant(a.t, a.s, w)
	if a.s = s; err == api.OK {
		a.open = append(a.open, w)
	}
}

func (a *life) next() {
	a.t.Helper()
	s, said, deals := lookAtNext(a.t, a.s)
	a.s = s
	a.dealt(deals)
	if len(said) != 0 && (len(said) != 3 || !s.Busy || len(a.open) != len(s.Wishes)+1) {
		a.t.Fatal(tell(said), tell(s))
	}
}

func (a *life) ack(codes ...int) {
	a.t.Helper()
	s, _, deals := lookAtAck(a.t, a.s, codes...)
	a.s = s
	a.dealt(deals)
}

// P18.7: whatever a server answers, and whichever lists it tells, each wish comes to one deal, in their order.
func TestEachOnce(t *testing.T) {
	r := rand.New(rand.NewSource(1870))
	dealt := 0
	for range 400 {
		a := &life{t: t, s: api.Ssi{List: randomList(r)}}
		wanted := 0
		for range 150 {
			switch r.Intn(7) {
			case 0, 1:
				open := len(a.open)
				a.want(randomWish(r))
				wanted += len(a.open) - open
			case 2, 3:
				a.next()
			case 4, 5:
				a.ack(randomCodes(r, len(a.s.Items))...)
			case 6:
				if r.Intn(4) == 0 {
					a.s = lookAtLoad(t, a.s, randomList(r))
				}
				a.s = lookAtMark(t, a.s, randomWish(r).Name, r.Intn(2) == 0)
			}
			if list.Check(a.s.List) != api.OK || !a.s.Busy && len(a.open) != len(a.s.Wishes) || a.s.Busy && len(a.open) != len(a.s.Wishes)+1 {
				t.Fatal(tell(a.open), tell(a.s))
			}
		}
		for steps := 0; len(a.s.Wishes) > 0 || a.s.Busy; steps++ {
			a.next()
			a.ack(randomCodes(r, len(a.s.Items))...)
			if steps > 100 {
				t.Fatal("it does not come to an end:", tell(a.s))
			}
		}
		if len(a.open) != 0 {
			t.Fatal(tell(a.open))
		}
		dealt += wanted
	}
	if dealt < 5000 {
		t.Fatal(dealt)
	}
}

// served is what a server does with items, and its codes: some of those who are added have to be asked first.
func served(l api.List, kind int, items []api.Item) (api.List, []int) {
	var codes []int
	for _, it := range items {
		code := api.AckAuth
		if kind != api.LgAdd || it.Type != api.ItemBuddy || it.Await || !slices.Contains([]string{"ann", "eve", "12345"}, plainOf(it.Name)) {
			l, code = list.Apply(l, kind, it)
		}
		codes = append(codes, code)
	}
	return l, codes
}

// P18.8: a server that does what is said, and acknowledges it so, has the list that is known of it.
func TestAsTheServer(t *testing.T) {
	r := rand.New(rand.NewSource(188))
	codes := map[int]int{}
	for range 300 {
		server := randomList(r)
		if r.Intn(10) == 0 {
			server = full(97 + r.Intn(4))
		}
		a := &life{t: t, s: lookAtLoad(t, api.Ssi{}, server)}
		for range 100 {
			for range r.Intn(4) {
				a.want(randomWish(r))
			}
			a.next()
			if a.s.Busy && r.Intn(10) == 0 { // the connection is lost ahead of the answer, but the server may have done it
				if r.Intn(2) == 0 {
					server, _ = served(server, a.s.Kind, a.s.Items)
				}
				a.s = lookAtLoad(t, a.s, server)
			} else if a.s.Busy {
				var got []int
				server, got = served(server, a.s.Kind, a.s.Items)
				a.ack(got...)
				for _, code := range got {
					codes[code]++
				}
			}
			if !list.Same(a.s.List, server) || list.Check(server) != api.OK {
				t.Fatalf("%s, not %s", tell(a.s.List), tell(server))
			}
		}
	}
	if codes[api.AckOk] < 5000 || codes[api.AckAuth] < 500 || len(codes) != 2 {
		t.Fatal(codes)
	}
}

// P18.8: of wishes that were dealt with as AckOk, the list is as they want it.
func TestAsWanted(t *testing.T) {
	r := rand.New(rand.NewSource(1880))
	for range 3000 {
		s := api.Ssi{List: randomList(r)}
		w := randomWish(r)
		s, _ = lookAtWant(t, s, w)
		s, _, deals := lookAtNext(t, s)
		if s.Busy {
			_, codes := served(s.List, s.Kind, s.Items)
			if s, _, deals = lookAtAck(t, s, codes...); len(deals) == 0 {
				continue
			}
		}
		it, ok := list.Buddy(s.List, w.Name)
		if deals[0].Code == api.AckOk && (ok == (w.Kind == api.WiDel) || w.Kind == api.WiName && it.Alias != w.Alias) || deals[0].Code == api.AckNone && ok || deals[0].Code == api.AckAuth && !it.Await {
			t.Fatal(tell(w), tell(deals), tell(s))
		}
	}
}

// Every call ends, and none panics, also of parts that no call answers, with lists that may not be.
func TestAnyArguments(t *testing.T) {
	r := rand.New(rand.NewSource(18))
	anyItems := func() []api.Item {
		items := make([]api.Item, r.Intn(4))
		for i := range items {
			items[i] = api.Item{Name: pick(r, names()...), Group: r.Intn(4) - 1, Id: r.Intn(4) - 1, Type: r.Intn(4) - 1, Alias: pick(r, titles()...), Await: r.Intn(2) == 0}
		}
		return items
	}
	anyWish := func() api.Wish {
		return api.Wish{Kind: r.Intn(6) - 1, Name: pick(r, names()...), Alias: pick(r, titles()...), Group: pick(r, titles()...), Await: r.Intn(2) == 0}
	}
	for range 600 {
		s := api.Ssi{List: api.List{Items: anyItems(), Time: r.Int63() - r.Int63()}, Busy: r.Intn(2) == 0, Kind: 18 + r.Intn(6), Items: anyItems(), Wish: anyWish()}
		for range r.Intn(4) {
			s.Wishes = append(s.Wishes, anyWish())
		}
		kept := copied(s)
		Want(s, anyWish())
		Ack(s, randomCodes(r, r.Intn(4)))
		Load(s, api.List{Items: anyItems()})
		Mark(s, pick(r, names()...), true)
		if after, _, _ := Next(s); !after.Busy && len(after.Wishes) != 0 {
			t.Fatal(tell(after))
		}
		if !alike(answer{s: s}, answer{s: kept}) {
			t.Fatalf("%s is not any more %s", tell(s), tell(kept))
		}
	}
	if s, said, deals := Ack(api.Ssi{Busy: true, Kind: api.LgAdd}, nil); s.Busy || len(said) != 0 || !slices.Equal(deals, []api.Deal{{}}) {
		t.Fatal(tell(s), tell(said), tell(deals))
	}
	many := slices.Repeat([]api.Wish{del("none")}, 100000)
	if s, _, deals := Next(api.Ssi{Wishes: many}); len(s.Wishes) != 0 || len(deals) != len(many) {
		t.Fatal(len(s.Wishes), len(deals))
	}
}

// lies tells whether part is in the memory of s.
func lies(part, s string) bool {
	if part == "" || s == "" {
		return false
	}
	from, at := uintptr(unsafe.Pointer(unsafe.StringData(s))), uintptr(unsafe.Pointer(unsafe.StringData(part)))
	return at >= from && at < from+uintptr(len(s))
}

// texts are those of each list of an answer, list by list.
func texts(a answer) [][]string {
	of := func(items []api.Item) []string {
		var l []string
		for _, it := range items {
			l = append(l, it.Name, it.Alias)
		}
		return l
	}
	all := [][]string{of(a.s.List.Items), of(a.s.Items), {a.s.Wish.Name, a.s.Wish.Alias, a.s.Wish.Group}}
	for _, w := range a.s.Wishes {
		all = append(all, []string{w.Name, w.Alias, w.Group})
	}
	for _, n := range a.said {
		all = append(all, append(of(n.Items), n.Name, n.Text, n.Data))
	}
	for _, d := range a.deals {
		all = append(all, []string{d.Wish.Name, d.Wish.Alias, d.Wish.Group})
	}
	return all
}

func lookApart(t *testing.T, what string, one, other [][]string) {
	t.Helper()
	for _, a := range slices.Concat(one...) {
		for _, b := range slices.Concat(other...) {
			if lies(a, b) {
				t.Fatalf("%s: %q lies in what is elsewhere", what, a)
			}
		}
	}
}

// spoil writes over an answer, and behind its lists.
func spoil(a answer) {
	spoilItems(a.s.List.Items)
	spoilItems(a.s.Items)
	for i := range a.s.Wishes {
		a.s.Wishes[i] = api.Wish{Kind: -1}
	}
	for i := range a.said {
		spoilItems(a.said[i].Items)
		a.said[i] = api.Note{Kind: -1}
	}
	for i := range a.deals {
		a.deals[i] = api.Deal{Code: -1}
	}
	_, _, _ = append(a.s.Wishes, api.Wish{Kind: -2}), append(a.said, api.Note{Kind: -2}), append(a.deals, api.Deal{Code: -2})
}

func spoilItems(items []api.Item) {
	for i := range items {
		items[i] = api.Item{Name: "other"}
	}
	_ = append(items, api.Item{Name: "more"})
}

// roomy is s with room behind each list, and what lies in that room.
func roomy(s api.Ssi) (api.Ssi, func() bool) {
	it, w := api.Item{Name: "spare"}, api.Wish{Name: "spare"}
	room := func(items []api.Item) []api.Item {
		return append(slices.Clone(items), it, it, it)[:len(items)]
	}
	s.List.Items, s.Items, s.Wishes = room(s.List.Items), room(s.Items), append(slices.Clone(s.Wishes), w, w, w)[:len(s.Wishes)]
	return s, func() bool {
		n, m, k := len(s.List.Items), len(s.Items), len(s.Wishes)
		return s.List.Items[:n+3][n] == it && s.Items[:m+3][m] == it && s.Wishes[:k+3][k] == w
	}
}

// Answers share nothing with what was handed in, nor with each other; lists that are handed in stay as they are, and
// their spare room does.
func TestApart(t *testing.T) {
	named := strings.Clone("fresh one")
	adds := api.Wish{Kind: 1, Name: named, Alias: strings.Clone("Alias"), Group: strings.Clone("new")}
	l := small()
	parts := []api.Ssi{
		{}, waiting(), waiting(del("none"), adds, adds), waiting(del("none"), add("ann")), waiting(call("bob", named), adds), waiting(del("bob"), del("ann")),
		underWay(t, adds, add("mia")), underWay(t, del("bob"), adds), underWay(t, call("bob", named), adds, adds),
	}
	for _, s := range parts {
		kept := copied(s)
		s, spared := roomy(s)
		for what, do := range map[string]func() answer{
			"Want":     func() answer { s, _ := Want(s, adds); return answer{s: s} },
			"Want bad": func() answer { s, _ := Want(s, api.Wish{}); return answer{s: s} },
			"Next":     func() answer { return answerOf(Next(s)) },
			"Ack":      func() answer { return answerOf(Ack(s, make([]int, len(s.Items)))) },
			"Ack 14":   func() answer { return answerOf(Ack(s, slices.Repeat([]int{14}, len(s.Items)))) },
			"Ack none": func() answer { return answerOf(Ack(s, nil)) },
			"Load":     func() answer { return answer{s: Load(s, l)} },
			"Mark":     func() answer { return answer{s: Mark(s, "bob", true)} },
		} {
			one, two := do(), do()
			want := evened(two)
			given := append(texts(answer{s: s}), []string{adds.Name, adds.Alias, adds.Group}, texts(answer{s: api.Ssi{List: l}})[0])
			lookApart(t, what, texts(one), given)
			lookApart(t, what, texts(one), texts(two))
			parted := texts(one)
			for i := range parted {
				lookApart(t, what, parted[i:i+1], slices.Concat(parted[:i], parted[i+1:]))
			}
			spoil(one)
			if !alike(answer{s: s}, answer{s: kept}) || !spared() || !alike(two, want) || !list.Same(l, small()) {
				t.Fatalf("%s: %s, %s", what, tell(s), tell(two))
			}
		}
	}
}

// All are pure functions: the same every time, also at the same time.
func TestPure(t *testing.T) {
	var all sync.WaitGroup
	shared := underWay(t, add("eve"), del("bob"))
	for seed := range int64(8) {
		all.Go(func() {
			r := rand.New(rand.NewSource(seed % 4))
			for range 1000 {
				s, codes, w := randomSsi(r), randomCodes(r, 1), randomWish(r)
				if !alike(answerOf(Next(s)), answerOf(nextOf(s))) || !alike(answerOf(Ack(shared, codes)), answerOf(ackOf(shared, codes))) {
					t.Error(tell(s), codes)
				}
				wanted, err := Want(shared, w)
				want, wantErr := wantOf(shared, w)
				if err != wantErr || !alike(answer{s: wanted}, answer{s: want}) || !alike(answer{s: Mark(shared, w.Name, true)}, answer{s: markOf(shared, w.Name, true)}) {
					t.Error(tell(w))
				}
			}
		})
	}
	all.Wait()
}

// The chapter's example.
func TestExamples(t *testing.T) {
	w := add("joe")
	s, err := Want(api.Ssi{}, w)
	if err != api.OK {
		t.Fatal(err)
	}
	s, said, deals := Next(s)
	if want := []api.Note{{Kind: api.LgBegin}, {Kind: api.LgAdd, Items: []api.Item{group(1, "Buddies"), buddy(1, 1, "joe")}}, {Kind: api.LgEnd}}; !reflect.DeepEqual(said, want) || len(deals) != 0 {
		t.Fatal(tell(said), tell(deals))
	}
	s, said, deals = Ack(s, []int{0, 0})
	if len(said) != 0 || !slices.Equal(deals, []api.Deal{{Wish: w, Code: api.AckOk}}) || len(s.List.Items) != 2 {
		t.Fatal(tell(said), tell(deals), tell(s))
	}
}
