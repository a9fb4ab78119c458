package list

import (
	"math/rand"
	"slices"
	"strings"
	"sync"
	"testing"
	"unsafe"

	"wharf/api"
	"wharf/legacy"
)

func group(g int, name string) api.Item { return api.Item{Type: api.ItemGroup, Group: g, Name: name} }

func buddy(g, id int, name string) api.Item { return api.Item{Group: g, Id: id, Name: name} }

func of(items ...api.Item) api.List { return api.List{Items: items, Time: 7} }

// small is a list that may be, with groups with buddies and without.
func small() api.List {
	return of(
		group(1, "Friends"), buddy(1, 1, "Joe B"), buddy(1, 2, "bob"), buddy(1, 4, "12345"), group(3, "Work"),
		api.Item{Group: 3, Id: 9, Name: "ann", Alias: "Ann\u00e9", Await: true}, group(65535, "Empty"),
	)
}

func lookAtCheck(t *testing.T, l api.List) api.Errno {
	t.Helper()
	got := Check(l)
	if want := checkOf(l); got != want {
		t.Fatalf("Check(%s): %v, not %v", tell(l), got, want)
	}
	return got
}

func lookAtPut(t *testing.T, time int64, items ...api.Item) (api.List, api.Errno) {
	t.Helper()
	kept := slices.Clone(items)
	got, err := Put(time, items...)
	want, wantErr := putOf(time, kept)
	if !alike(got, want) || err != wantErr {
		t.Fatalf("Put(%d, %s): %s %v, not %s %v", time, tell(kept), tell(got), err, tell(want), wantErr)
	}
	if !slices.Equal(items, kept) {
		t.Fatalf("Put(%d, %s) left %s", time, tell(kept), tell(items))
	}
	return got, err
}

func lookAtApply(t *testing.T, l api.List, kind int, x api.Item) (api.List, int) {
	t.Helper()
	kept := api.List{Items: slices.Clone(l.Items), Time: l.Time}
	got, code := Apply(l, kind, x)
	want, wantCode := applyOf(kept, kind, x)
	if !alike(got, want) || code != wantCode {
		t.Fatalf("Apply(%s, %d, %s): %s %d, not %s %d", tell(kept), kind, tell(x), tell(got), code, tell(want), wantCode)
	}
	if !alike(l, kept) {
		t.Fatalf("Apply(%s, %d, %s) left %s", tell(kept), kind, tell(x), tell(l))
	}
	return got, code
}

// alike is what Same is to answer.
func alike(a, b api.List) bool {
	if len(a.Items) != len(b.Items) || a.Time != b.Time {
		return false
	}
	for i := range a.Items {
		if a.Items[i] != b.Items[i] {
			return false
		}
	}
	return true
}

func lookAtFinds(t *testing.T, l api.List) {
	t.Helper()
	for _, name := range names() {
		b, ok := Buddy(l, name)
		if want, wantOk := buddyCalled(l, name); b != want || ok != wantOk {
			t.Fatalf("Buddy(%s, %q): %s %t, not %s %t", tell(l), name, tell(b), ok, tell(want), wantOk)
		}
		g, ok := Group(l, name)
		if want, wantOk := groupCalled(l, name); g != want || ok != wantOk {
			t.Fatalf("Group(%s, %q): %s %t, not %s %t", tell(l), name, tell(g), ok, tell(want), wantOk)
		}
	}
	for _, n := range numbers() {
		lookAtPlaceAndTitle(t, l, int(n))
	}
	for n := -2; n < 15; n++ {
		lookAtPlaceAndTitle(t, l, n)
	}
	if got, want := Room(l), freeGroupOf(l); got != want {
		t.Fatalf("Room(%s): %d, not %d", tell(l), got, want)
	}
}

func lookAtPlaceAndTitle(t *testing.T, l api.List, group int) {
	t.Helper()
	if got, want := Place(l, group), freeIdOf(l, group); got != want {
		t.Fatalf("Place(%s, %d): %d, not %d", tell(l), group, got, want)
	}
	if got, want := Title(l, group), titleOfModel(l, group); got != want {
		t.Fatalf("Title(%s, %d): %q, not %q", tell(l), group, got, want)
	}
}

// P17.1: lists that may be, and the ends of what may be.
func TestCheckOfGoodLists(t *testing.T) {
	x := func(n int) string { return strings.Repeat("x", n) }
	for _, l := range []api.List{
		{}, {Items: []api.Item{}}, {Time: 1}, {Time: 1<<32 - 1}, small(), full(99), full(100),
		of(group(1, "g")), of(group(65535, "g")), of(group(1, x(64))), of(group(1, " ")), of(group(1, "\t\u00e9\U0001f600")),
		of(group(1, "g"), group(2, "G"), group(3, "g "), group(4, " g")), of(group(1, "joe"), buddy(1, 1, "joe")), of(group(5, "g"), buddy(5, 1, "joe")),
		of(group(1, "g"), buddy(1, 1, "joe"), buddy(1, 65535, "bob")), of(group(65535, "g"), buddy(65535, 65535, "joe")),
		of(group(1, "g"), buddy(1, 7, "joe"), group(2, "h"), buddy(2, 7, "joe1")), of(group(1, "g"), buddy(1, 1, x(16)), buddy(1, 2, "12345"), buddy(1, 3, "a@b")),
		of(group(1, "g"), api.Item{Group: 1, Id: 1, Name: "joe", Alias: x(64), Await: true}), of(group(1, "g"), api.Item{Group: 1, Id: 1, Name: "joe", Alias: "a"}, api.Item{Group: 1, Id: 2, Name: "bob", Alias: "a"}),
	} {
		if err := lookAtCheck(t, l); err != api.OK {
			t.Error(tell(l), err)
		}
	}
}

// P17.1: lists that may not be, each for one reason.
func TestCheckOfBadLists(t *testing.T) {
	x := func(n int) string { return strings.Repeat("x", n) }
	for _, l := range []api.List{
		{Time: -1}, {Time: 1 << 32}, {Time: -1 << 63}, {Time: 1<<63 - 1}, full(101), full(1000), of(append(full(100).Items, group(65535, "last"))...),
		of(group(0, "g")), of(group(-1, "g")), of(group(65536, "g")), of(group(1<<32+1, "g")), of(group(1, "")), of(group(1, x(65))), of(group(1, "\x00")), of(group(1, "\xff")), of(group(1, "\ufffe")),
		of(api.Item{Type: 1, Group: 1, Id: 1, Name: "g"}), of(api.Item{Type: 1, Group: 1, Id: -1, Name: "g"}), of(api.Item{Type: 1, Group: 1, Id: 65536, Name: "g"}),
		of(api.Item{Type: 1, Group: 1, Name: "g", Alias: "a"}), of(api.Item{Type: 1, Group: 1, Name: "g", Await: true}), of(api.Item{Type: 2, Group: 1, Name: "g"}), of(api.Item{Type: -1, Group: 1, Name: "g"}),
		of(buddy(1, 1, "joe")), of(buddy(0, 1, "joe")), of(group(1, "g"), buddy(2, 1, "joe")), of(group(2, "g"), buddy(1, 1, "joe")), of(group(2, "g"), buddy(3, 1, "joe")), of(buddy(1, 1, "joe"), group(1, "g")),
		of(group(1, "g"), buddy(1, 0, "joe")), of(buddy(1, 0, "joe")), of(buddy(1, 0, "joe"), buddy(1, 1, "bob")), of(group(1, "g"), buddy(1, -1, "joe")), of(buddy(1, -1, "joe"), group(1, "g")), of(group(1, "g"), buddy(1, 65536, "joe")), of(group(1, "g"), buddy(1, 1<<32+1, "joe")),
		of(group(0, "g"), buddy(0, 1, "joe")), of(group(65536, "g"), buddy(65536, 1, "joe")), of(group(1, ""), buddy(1, 1, "joe")), of(api.Item{Type: 1, Group: 1, Id: 1, Name: "g"}, buddy(1, 2, "joe")), of(buddy(1, 1, "joe"), api.Item{Type: 1, Group: 1, Id: 2, Name: "g"}),
		of(group(1, "g"), buddy(1, 1, "jo")), of(group(1, "g"), buddy(1, 1, "")), of(group(1, "g"), buddy(1, 1, x(17))), of(group(1, "g"), buddy(1, 1, "joe ")), of(group(1, "g"), buddy(1, 1, "01234")), of(group(1, "g"), buddy(1, 1, "joe\xff")),
		of(group(1, "g"), api.Item{Group: 1, Id: 1, Name: "joe", Alias: x(65)}), of(group(1, "g"), api.Item{Group: 1, Id: 1, Name: "joe", Alias: "\x00"}), of(group(1, "g"), api.Item{Group: 1, Id: 1, Name: "joe", Type: 2}),
		of(group(1, "g"), group(1, "g")), of(group(1, "g"), group(1, "h")), of(group(2, "g"), group(1, "h")), of(group(1, "g"), group(2, "g")), of(group(1, "g"), group(2, "h"), group(3, "g")), of(group(1, "g"), group(3, "i"), group(2, "h")),
		of(group(1, "g"), buddy(1, 1, "joe"), buddy(1, 1, "bob")), of(group(1, "g"), buddy(1, 2, "joe"), buddy(1, 1, "bob")), of(group(1, "g"), buddy(1, 1, "joe"), group(1, "h")), of(group(1, "g"), group(2, "h"), buddy(1, 1, "joe")), of(group(1, "g"), group(2, "h"), buddy(2, 5, "joe"), buddy(1, 6, "bob")),
		of(group(1, "g"), buddy(1, 1, "joe"), buddy(1, 2, "joe")), of(group(1, "g"), buddy(1, 1, "joe"), buddy(1, 2, "J o E")), of(group(1, "g"), buddy(1, 1, "joe"), buddy(1, 2, "bob"), group(2, "h"), buddy(2, 1, "JOE")),
		of(group(1, "g"), buddy(1, 1, "12345"), buddy(1, 2, "12345")),
	} {
		if err := lookAtCheck(t, l); err != api.ErrList {
			t.Error(tell(l), err)
		}
	}
}

// changed answers lists that have another value in one field, or another item, or another order.
func changed(l api.List) []api.List {
	var all []api.List
	add := func(change func(m *api.List)) {
		m := api.List{Items: slices.Clone(l.Items), Time: l.Time}
		change(&m)
		all = append(all, m)
	}
	for _, x := range numbers() {
		add(func(m *api.List) { m.Time = x })
	}
	for i := range l.Items {
		for _, x := range numbers() {
			add(func(m *api.List) { m.Items[i].Group = int(x) })
			add(func(m *api.List) { m.Items[i].Id = int(x) })
			add(func(m *api.List) { m.Items[i].Type = int(x) })
		}
		for _, s := range names() {
			add(func(m *api.List) { m.Items[i].Name = s })
			add(func(m *api.List) { m.Items[i].Alias = s })
		}
		for j := range l.Items {
			add(func(m *api.List) { m.Items[i], m.Items[j] = m.Items[j], m.Items[i] })
			add(func(m *api.List) { m.Items[i] = m.Items[j] })
			add(func(m *api.List) { m.Items[i].Name = m.Items[j].Name })
			add(func(m *api.List) { m.Items[i].Group = m.Items[j].Group })
			add(func(m *api.List) { m.Items[i].Id = m.Items[j].Id })
		}
		add(func(m *api.List) { m.Items[i].Await = !m.Items[i].Await })
		add(func(m *api.List) { m.Items = slices.Delete(m.Items, i, i+1) })
		add(func(m *api.List) { m.Items = slices.Insert(m.Items, i, api.Item{}) })
		for _, it := range someItems() {
			add(func(m *api.List) { m.Items = slices.Insert(m.Items, i, it) })
		}
	}
	return all
}

// P17.1: each field of each item with other values, items more and less, another order.
func TestCheckOfChangedLists(t *testing.T) {
	seen := map[api.Errno]int{}
	for _, m := range changed(small()) {
		seen[lookAtCheck(t, m)]++
	}
	if seen[api.OK] < 200 || seen[api.ErrList] < 5000 {
		t.Fatal(seen)
	}
}

// P17.1: lists thrown together at random.
func TestCheckAtRandom(t *testing.T) {
	r := rand.New(rand.NewSource(171))
	seen := map[api.Errno]int{}
	for range 40000 {
		seen[lookAtCheck(t, anyList(r))]++
	}
	if seen[api.OK] < 4000 || seen[api.ErrList] < 4000 {
		t.Fatal(seen)
	}
}

// P17.1: every order of a few items comes to one list.
func TestPutInEveryOrder(t *testing.T) {
	want := of(group(1, "g"), buddy(1, 1, "joe"), buddy(1, 3, "bob"), group(2, "h"), buddy(2, 1, "ann"), group(300, "i"))
	orders := 0
	eachOrder(slices.Clone(want.Items), 0, func(items []api.Item) {
		orders++
		if l, err := lookAtPut(t, 7, items...); err != api.OK || !alike(l, want) {
			t.Fatal(tell(items), tell(l), err)
		}
	})
	if orders != 720 {
		t.Fatal(orders)
	}
}

func eachOrder(items []api.Item, from int, do func([]api.Item)) {
	if from == len(items) {
		do(items)
		return
	}
	for i := from; i < len(items); i++ {
		items[from], items[i] = items[i], items[from]
		eachOrder(items, from+1, do)
		items[from], items[i] = items[i], items[from]
	}
}

// P17.1: what Check refuses, and the bounds.
func TestPut(t *testing.T) {
	for _, l := range []api.List{{}, {Time: 1<<32 - 1}, small(), full(100)} {
		slices.Reverse(l.Items)
		if got, err := lookAtPut(t, l.Time, l.Items...); err != api.OK || len(got.Items) != len(l.Items) || got.Time != l.Time || Check(got) != api.OK {
			t.Error(tell(l), tell(got), err)
		}
	}
	for _, l := range []api.List{
		{Time: -1}, {Time: 1 << 32}, full(101), of(full(5000).Items...), of(buddy(1, 1, "joe")), of(group(1, "")), of(group(0, "g")), of(group(1, "g"), group(2, "g")), of(group(1, "g"), group(1, "h")), of(group(2, "g"), buddy(2, 1, "joe"), group(2, "g")),
		of(buddy(1, 1, "joe"), group(1, "g"), buddy(1, 1, "bob")), of(buddy(1, 1, "joe"), group(1, "g"), buddy(1, 2, "JO E")), of(buddy(1, 0, "joe"), group(1, "g")), of(small().Items[1:]...),
	} {
		if got, err := lookAtPut(t, l.Time, l.Items...); err != api.ErrList || got.Items != nil || got.Time != 0 {
			t.Error(tell(l), tell(got), err)
		}
	}
}

// P17.1: changed lists, and such as are thrown together, in any order.
func TestPutAtRandom(t *testing.T) {
	r := rand.New(rand.NewSource(172))
	seen := map[api.Errno]int{}
	look := func(l api.List) {
		r.Shuffle(len(l.Items), func(i, j int) { l.Items[i], l.Items[j] = l.Items[j], l.Items[i] })
		_, err := lookAtPut(t, l.Time, l.Items...)
		seen[err]++
	}
	for _, l := range changed(small()) {
		look(l)
	}
	for range 20000 {
		look(anyList(r))
	}
	if seen[api.OK] < 3000 || seen[api.ErrList] < 3000 {
		t.Fatal(seen)
	}
}

// P17.1: the same in each field, and item by item, also those that may not be.
func TestSame(t *testing.T) {
	whole := api.List{Time: -5, Items: []api.Item{{Name: "a", Group: 1, Id: 2, Type: 3, Alias: "b", Await: true}, {}}}
	unlike := []api.List{whole, {}, {Time: 1}, {Time: 1 << 32}, {Items: []api.Item{{}}}, {Items: []api.Item{{}, {}}}, small()}
	add := func(change func(l *api.List)) {
		l := api.List{Items: slices.Clone(whole.Items), Time: whole.Time}
		change(&l)
		unlike = append(unlike, l)
	}
	add(func(l *api.List) { l.Time = 5 })
	add(func(l *api.List) { l.Time = -5 + 1<<32 })
	add(func(l *api.List) { l.Items = nil })
	add(func(l *api.List) { l.Items = l.Items[:1] })
	add(func(l *api.List) { l.Items = l.Items[1:] })
	add(func(l *api.List) { l.Items = append(l.Items, api.Item{}) })
	add(func(l *api.List) { slices.Reverse(l.Items) })
	add(func(l *api.List) { l.Items[0].Name = "A" })
	add(func(l *api.List) { l.Items[0].Name = "a " })
	add(func(l *api.List) { l.Items[0].Group = 0 })
	add(func(l *api.List) { l.Items[0].Id = 0 })
	add(func(l *api.List) { l.Items[0].Type = 0 })
	add(func(l *api.List) { l.Items[0].Alias = "" })
	add(func(l *api.List) { l.Items[0].Await = false })
	add(func(l *api.List) { l.Items[1].Await = true })
	add(func(l *api.List) { l.Items[1].Id = 1 << 32 })
	for i, a := range unlike {
		for j, b := range unlike {
			b.Items = slices.Clone(b.Items)
			if got := Same(a, b); got != (i == j) {
				t.Fatalf("Same(%s, %s): %v", tell(a), tell(b), got)
			}
		}
	}
	if !Same(api.List{Items: []api.Item{}}, api.List{}) || !Same(api.List{}, api.List{Items: []api.Item{}}) {
		t.Fatal("nil and an empty list are not the same")
	}
}

// P17.2: each code, written out.
func TestApply(t *testing.T) {
	l := small()
	for _, c := range []struct {
		kind int
		x    api.Item
		code int
	}{
		{0, buddy(1, 3, "eve"), api.AckBad}, {19, buddy(1, 3, "eve"), api.AckBad}, {23, buddy(1, 1, "Joe B"), api.AckBad}, {-1, buddy(1, 3, "eve"), api.AckBad}, {api.LgAdd + 1<<32, buddy(1, 3, "eve"), api.AckBad}, {api.LgList, group(1, "Friends"), api.AckBad},
		{api.LgAdd, buddy(1, 3, "eve"), api.AckOk}, {api.LgAdd, buddy(65535, 65535, "eve"), api.AckOk}, {api.LgAdd, buddy(65535, 1, "eve"), api.AckOk}, {api.LgAdd, group(2, "g"), api.AckOk}, {api.LgAdd, group(4, "friends"), api.AckOk}, {api.LgAdd, group(65534, "Joe B"), api.AckOk},
		{api.LgAdd, api.Item{Group: 3, Id: 1, Name: "eve", Alias: "E", Await: true}, api.AckOk}, {api.LgAdd, buddy(3, 10, "Friends"), api.AckOk},
		{api.LgAdd, buddy(2, 1, "eve"), api.AckBad}, {api.LgAdd, buddy(1, 0, "eve"), api.AckBad}, {api.LgAdd, buddy(2, 0, "eve"), api.AckBad}, {api.LgAdd, buddy(1, -1, "eve"), api.AckBad}, {api.LgAdd, buddy(1, 65536, "eve"), api.AckBad}, {api.LgAdd, buddy(1, 3, "ev"), api.AckBad}, {api.LgAdd, buddy(0, 1, "eve"), api.AckBad},
		{api.LgAdd, group(0, "g"), api.AckBad}, {api.LgAdd, group(65536, "g"), api.AckBad}, {api.LgAdd, group(2, ""), api.AckBad}, {api.LgAdd, api.Item{Type: 1, Group: 2, Id: 1, Name: "g"}, api.AckBad}, {api.LgAdd, api.Item{Type: 1, Group: 2, Name: "g", Await: true}, api.AckBad}, {api.LgAdd, api.Item{Type: 2, Group: 1, Id: 3, Name: "eve"}, api.AckBad},
		{api.LgAdd, buddy(1, 1, "eve"), api.AckThere}, {api.LgAdd, buddy(1, 1, "Joe B"), api.AckThere}, {api.LgAdd, group(1, "g"), api.AckThere}, {api.LgAdd, group(3, "Work"), api.AckThere},
		{api.LgAdd, buddy(1, 3, "JOEB"), api.AckThere}, {api.LgAdd, buddy(3, 1, "b o b"), api.AckThere}, {api.LgAdd, buddy(65535, 1, "12345"), api.AckThere}, {api.LgAdd, group(2, "Work"), api.AckThere},
		{api.LgSet, buddy(1, 1, "Joe B"), api.AckOk}, {api.LgSet, buddy(1, 1, "joeb"), api.AckOk}, {api.LgSet, buddy(1, 1, "eve"), api.AckOk}, {api.LgSet, api.Item{Group: 1, Id: 2, Name: "bob", Alias: "B", Await: true}, api.AckOk}, {api.LgSet, group(1, "Friends"), api.AckOk}, {api.LgSet, group(1, "work"), api.AckOk}, {api.LgSet, group(65535, "E"), api.AckOk},
		{api.LgSet, buddy(1, 3, "eve"), api.AckNone}, {api.LgSet, buddy(3, 1, "Joe B"), api.AckNone}, {api.LgSet, group(2, "Friends"), api.AckNone}, {api.LgSet, buddy(65535, 1, "joeb"), api.AckNone},
		{api.LgSet, buddy(2, 1, "eve"), api.AckBad}, {api.LgSet, buddy(1, 0, "eve"), api.AckBad}, {api.LgSet, group(1, ""), api.AckBad}, {api.LgSet, api.Item{Type: 1, Group: 1, Id: 1, Name: "g"}, api.AckBad}, {api.LgSet, buddy(1, 1, "\xff"), api.AckBad}, {api.LgSet, api.Item{Type: 3, Group: 1, Id: 1, Name: "eve"}, api.AckBad},
		{api.LgSet, buddy(1, 1, "BOB"), api.AckThere}, {api.LgSet, buddy(3, 9, "Joe B"), api.AckThere}, {api.LgSet, group(1, "Empty"), api.AckThere},
		{api.LgDel, buddy(1, 1, "Joe B"), api.AckOk}, {api.LgDel, buddy(1, 1, ""), api.AckOk}, {api.LgDel, buddy(1, 4, "\xff"), api.AckOk}, {api.LgDel, buddy(3, 9, "bob"), api.AckOk}, {api.LgDel, group(65535, "Work"), api.AckOk}, {api.LgDel, buddy(65535, 0, ""), api.AckOk}, {api.LgDel, api.Item{Type: 9, Group: 1, Id: 2, Alias: strings.Repeat("x", 99)}, api.AckOk}, {api.LgDel, api.Item{Type: 1, Group: 1, Id: 1}, api.AckOk},
		{api.LgDel, buddy(1, 3, "Joe B"), api.AckNone}, {api.LgDel, group(2, "Friends"), api.AckNone}, {api.LgDel, buddy(-1, -1, ""), api.AckNone}, {api.LgDel, buddy(65536, 0, ""), api.AckNone}, {api.LgDel, api.Item{}, api.AckNone}, {api.LgDel, buddy(1<<32+1, 1, ""), api.AckNone},
		{api.LgDel, group(1, "Friends"), api.AckBad}, {api.LgDel, group(3, "Empty"), api.AckBad}, {api.LgDel, buddy(1, 0, ""), api.AckBad}, {api.LgDel, buddy(3, 0, "eve"), api.AckBad},
	} {
		m, code := lookAtApply(t, l, c.kind, c.x)
		if code != c.code || (code != api.AckOk) && !alike(m, l) || m.Time != 7 || Check(m) != api.OK {
			t.Errorf("Apply(%d, %s): %s %d, not %d", c.kind, tell(c.x), tell(m), code, c.code)
		}
	}
}

// P17.2: what a change leaves, written out: one more in its place, another one in that place, one less.
func TestApplyWrittenOut(t *testing.T) {
	l := of(group(1, "g"), buddy(1, 2, "joe"), group(3, "i"))
	for _, c := range []struct {
		kind int
		x    api.Item
		want []api.Item
	}{
		{api.LgAdd, buddy(1, 1, "bob"), []api.Item{group(1, "g"), buddy(1, 1, "bob"), buddy(1, 2, "joe"), group(3, "i")}},
		{api.LgAdd, buddy(1, 3, "bob"), []api.Item{group(1, "g"), buddy(1, 2, "joe"), buddy(1, 3, "bob"), group(3, "i")}},
		{api.LgAdd, buddy(3, 1, "bob"), []api.Item{group(1, "g"), buddy(1, 2, "joe"), group(3, "i"), buddy(3, 1, "bob")}},
		{api.LgAdd, group(2, "h"), []api.Item{group(1, "g"), buddy(1, 2, "joe"), group(2, "h"), group(3, "i")}},
		{api.LgAdd, group(4, "h"), []api.Item{group(1, "g"), buddy(1, 2, "joe"), group(3, "i"), group(4, "h")}},
		{api.LgSet, buddy(1, 2, "bob"), []api.Item{group(1, "g"), buddy(1, 2, "bob"), group(3, "i")}},
		{api.LgSet, group(1, "joe"), []api.Item{group(1, "joe"), buddy(1, 2, "joe"), group(3, "i")}},
		{api.LgDel, buddy(1, 2, "x"), []api.Item{group(1, "g"), group(3, "i")}},
		{api.LgDel, group(3, "x"), []api.Item{group(1, "g"), buddy(1, 2, "joe")}},
	} {
		m, code := lookAtApply(t, l, c.kind, c.x)
		if code != api.AckOk || !alike(m, of(c.want...)) {
			t.Errorf("Apply(%d, %s): %s %d", c.kind, tell(c.x), tell(m), code)
		}
	}
	first, code := lookAtApply(t, api.List{Time: 1<<32 - 1}, api.LgAdd, group(65535, "g"))
	if code != api.AckOk || !alike(first, api.List{Items: []api.Item{group(65535, "g")}, Time: 1<<32 - 1}) {
		t.Error(tell(first), code)
	}
	last, code := lookAtApply(t, first, api.LgDel, group(65535, ""))
	if code != api.AckOk || !alike(last, api.List{Time: 1<<32 - 1}) {
		t.Error(tell(last), code)
	}
}

// P17.2: of several reasons the first holds; around as many items as may be.
func TestApplyTheFirstReason(t *testing.T) {
	there, other, group1 := full(100).Items[1], full(100).Items[2].Name, full(100).Items[0]
	free, fifth := buddy(9, 11, "new"), buddy(9, 5, "new") // of 90 items the group 9 has but one buddy
	for _, c := range []struct {
		size, kind int
		x          api.Item
		code       int
	}{
		{99, api.LgAdd, free, api.AckOk}, {100, api.LgAdd, free, api.AckMany}, {98, api.LgAdd, group(11, "new"), api.AckOk}, {99, api.LgAdd, group(11, "new"), api.AckOk}, {100, api.LgAdd, group(11, "new"), api.AckMany},
		{99, api.LgAdd, buddy(9, 11, other), api.AckThere}, {100, api.LgAdd, buddy(9, 11, other), api.AckMany}, {99, api.LgAdd, group(11, group1.Name), api.AckThere}, {100, api.LgAdd, group(11, group1.Name), api.AckMany},
		{100, api.LgAdd, there, api.AckThere}, {100, api.LgAdd, buddy(1, 1, "new"), api.AckThere}, {100, api.LgAdd, group(1, "new"), api.AckThere}, {100, api.LgAdd, buddy(1, 1, ""), api.AckBad}, {100, api.LgAdd, buddy(11, 1, "new"), api.AckBad}, {100, api.LgAdd, group(11, ""), api.AckBad},
		{100, 99, there, api.AckBad}, {100, 99, free, api.AckBad}, {100, 99, buddy(9, 11, other), api.AckBad},
		{100, api.LgSet, buddy(1, 1, "new"), api.AckOk}, {100, api.LgSet, group(1, "new"), api.AckOk}, {100, api.LgSet, fifth, api.AckOk}, {100, api.LgSet, buddy(1, 1, other), api.AckThere}, {100, api.LgSet, group(2, group1.Name), api.AckThere},
		{100, api.LgSet, free, api.AckNone}, {90, api.LgSet, fifth, api.AckNone}, {90, api.LgSet, buddy(9, 5, other), api.AckNone}, {90, api.LgSet, group(10, group1.Name), api.AckNone}, {90, api.LgSet, buddy(9, 5, ""), api.AckBad}, {88, api.LgSet, fifth, api.AckBad},
		{100, api.LgDel, there, api.AckOk}, {100, api.LgDel, group1, api.AckBad}, {100, api.LgDel, group(11, "new"), api.AckNone}, {100, api.LgDel, group(10, ""), api.AckOk}, {67, api.LgDel, group(7, ""), api.AckOk}, {68, api.LgDel, group(7, ""), api.AckBad},
	} {
		if _, code := lookAtApply(t, full(c.size), c.kind, c.x); code != c.code {
			t.Errorf("Apply of %d items, %d, %s: %d, not %d", c.size, c.kind, tell(c.x), code, c.code)
		}
	}
}

// P17.2: one with that Group and Id has another Type: no list that may be has such a one, but it is asked.
func TestApplyOfAnotherType(t *testing.T) {
	l := of(buddy(1, 0, "joe"), api.Item{Type: 1, Group: 1, Id: 1, Name: "g"})
	for _, x := range []api.Item{group(1, "h"), buddy(1, 1, "bob")} {
		if m, code := Apply(l, api.LgSet, x); code != api.AckBad || !alike(m, l) {
			t.Error(tell(x), tell(m), code)
		}
	}
}

// P17.2, P17.4: every Kind and item of few values, of lists of few items.
func TestApplyOfSomeItems(t *testing.T) {
	seen := map[int]int{}
	for _, l := range []api.List{{}, small(), of(group(1, "g"), buddy(1, 1, "joe"), group(2, "h"), buddy(2, 2, "bob")), of(group(2, "joe"), group(3, "bob"), buddy(3, 1, "ann"))} {
		for kind := 18; kind <= 24; kind++ {
			for _, x := range someItems() {
				_, code := lookAtApply(t, l, kind, x)
				seen[code]++
			}
			for _, m := range changed(of(buddy(1, 1, "joe"))) {
				for _, x := range m.Items {
					lookAtApply(t, l, kind, x)
				}
			}
		}
	}
	for kind := -300; kind < 300; kind++ {
		if _, code := lookAtApply(t, small(), kind, buddy(1, 1, "joeb")); (code == api.AckBad) != (kind < 20 || kind > 22) {
			t.Fatal(kind, code)
		}
	}
	for _, kind := range numbers() {
		lookAtApply(t, small(), int(kind), buddy(1, 1, "joeb"))
	}
	if seen[api.AckOk] < 50 || seen[api.AckNone] < 50 || seen[api.AckThere] < 50 || seen[api.AckBad] < 50 {
		t.Fatal(seen)
	}
}

// P17.4: changes one behind the other, at random: a list that may be is followed by one, and no other item changes.
func TestItMayBe(t *testing.T) {
	r := rand.New(rand.NewSource(174))
	seen := map[int]int{}
	for range 300 {
		l := api.List{Time: r.Int63n(1 << 32)}
		for range 200 {
			kind, x := 20+r.Intn(3), randomItem(r)
			if kind == 22 && r.Intn(3) != 0 {
				continue
			}
			m, code := lookAtApply(t, l, kind, x)
			seen[code]++
			if err := lookAtCheck(t, m); err != api.OK || m.Time != l.Time {
				t.Fatalf("Apply(%s, %d, %s): %s", tell(l), kind, tell(x), tell(m))
			}
			if code != api.AckOk && !alike(m, l) || !alike(without(m, x), without(l, x)) {
				t.Fatalf("Apply(%s, %d, %s): %s %d", tell(l), kind, tell(x), tell(m), code)
			}
			if i := atOf(m, x); code == api.AckOk && (kind == api.LgDel) != (i < 0) || code == api.AckOk && i >= 0 && m.Items[i] != x {
				t.Fatalf("Apply(%s, %d, %s): %s %d", tell(l), kind, tell(x), tell(m), code)
			}
			l = m
		}
	}
	for _, code := range []int{api.AckOk, api.AckNone, api.AckThere, api.AckBad} {
		if seen[code] < 1000 {
			t.Fatal(seen)
		}
	}
}

// without is l without the item that has the place of x.
func without(l api.List, x api.Item) api.List {
	l.Items = slices.DeleteFunc(slices.Clone(l.Items), func(it api.Item) bool { return it.Group == x.Group && it.Id == x.Id })
	return l
}

// P17.2, P17.4: lists grow as far as they may, and shrink again.
func TestAsManyAsMayBe(t *testing.T) {
	l := api.List{}
	whole := full(120).Items
	for i, it := range whole {
		var code int
		if l, code = lookAtApply(t, l, api.LgAdd, it); (code == api.AckOk) != (i < 100) {
			t.Fatal(i, code)
		}
	}
	if len(l.Items) != 100 || lookAtCheck(t, l) != api.OK {
		t.Fatal(len(l.Items))
	}
	for i := len(l.Items) - 1; i >= 0; i-- {
		var code int
		if l, code = lookAtApply(t, l, api.LgDel, whole[i]); code != api.AckOk || len(l.Items) != i {
			t.Fatal(i, code)
		}
	}
}

// P17.3: written out.
func TestFinds(t *testing.T) {
	l := small()
	for name, want := range map[string]api.Item{"Joe B": l.Items[1], "joeb": l.Items[1], " J O E b ": l.Items[1], "BOB": l.Items[2], "12345": l.Items[3], "1 2345": l.Items[3], "Ann": l.Items[5]} {
		if got, ok := Buddy(l, name); got != want || !ok {
			t.Errorf("Buddy(%q): %s %t", name, tell(got), ok)
		}
	}
	for _, name := range []string{"", " ", "joe", "Friends", "friends", "Work", "joebb", "bo", "1234", "joe\tb", "\xff", strings.Repeat("x", 1<<20), "\u212a", "jo\u0435b"} {
		if got, ok := Buddy(l, name); got != (api.Item{}) || ok {
			t.Errorf("Buddy(%q): %s %t", name, tell(got), ok)
		}
	}
	for name, want := range map[string]api.Item{"Friends": l.Items[0], "Work": l.Items[4], "Empty": l.Items[6]} {
		if got, ok := Group(l, name); got != want || !ok {
			t.Errorf("Group(%q): %s %t", name, tell(got), ok)
		}
	}
	for _, name := range []string{"", "friends", "FRIENDS", "Friends ", " Friends", "Fr iends", "Joe B", "bob", "\xff"} {
		if got, ok := Group(l, name); got != (api.Item{}) || ok {
			t.Errorf("Group(%q): %s %t", name, tell(got), ok)
		}
	}
	for group, want := range map[int]int{1: 3, 3: 1, 65535: 1, 2: 1, 0: 1, -1: 1, 65536: 1, 1<<32 + 1: 1, -1 << 63: 1, 1<<63 - 1: 1} {
		if got := Place(l, group); got != want {
			t.Errorf("Place(%d): %d, not %d", group, got, want)
		}
	}
	for group, want := range map[int]string{1: "Friends", 3: "Work", 65535: "Empty", 2: "", 0: "", -1: "", 65536: "", 1<<32 + 1: "", -1 << 63: "", 1<<63 - 1: ""} {
		if got := Title(l, group); got != want {
			t.Errorf("Title(%d): %q, not %q", group, got, want)
		}
	}
	for _, c := range []struct {
		l    api.List
		want int
	}{
		{api.List{}, 1}, {of(group(2, "g")), 1}, {small(), 2}, {of(group(1, "g"), group(2, "h")), 3}, {of(group(1, "g"), buddy(1, 2, "joe")), 2},
		{of(group(1, "g"), group(2, "h"), group(3, "i"), buddy(3, 4, "joe"), group(5, "j")), 4}, {full(100), 11},
	} {
		if got := Room(c.l); got != c.want {
			t.Errorf("Room(%s): %d, not %d", tell(c.l), got, c.want)
		}
	}
	for size := range 12 {
		if got, want := Place(full(size), 1), max(size, 1); got != want {
			t.Errorf("Place of %d items: %d, not %d", size, got, want)
		}
	}
}

// P17.3: all lists that changes make.
func TestFindsAtRandom(t *testing.T) {
	lookAtFinds(t, api.List{})
	lookAtFinds(t, small())
	lookAtFinds(t, full(100))
	r := rand.New(rand.NewSource(173))
	for range 1500 {
		lookAtFinds(t, randomList(r))
	}
}

// P17.5: what was added at its Place, in a group at its Room, is found; taken away again the list is as it was.
func TestThereAndBack(t *testing.T) {
	r := rand.New(rand.NewSource(175))
	added := 0
	for range 4000 {
		l := randomList(r)
		g := group(Room(l), pick(r, "new", "g", "Friends "))
		m, code := lookAtApply(t, l, api.LgAdd, g)
		_, taken := Group(l, g.Name)
		if (code == api.AckOk) == taken {
			t.Fatalf("Apply(%s, %s): %d", tell(l), tell(g), code)
		}
		if taken {
			g, _ = Group(l, g.Name)
		}
		if got, ok := Group(m, g.Name); got != g || !ok || Title(m, g.Group) != g.Name {
			t.Fatalf("%s: %s %t", tell(m), tell(got), ok)
		}
		b := buddy(g.Group, Place(m, g.Group), pick(r, "Joe", "new 1", "bob", "77777"))
		b.Alias, b.Await = pick(r, "", "x"), r.Intn(2) == 0
		_, taken = Buddy(m, b.Name)
		n, code := lookAtApply(t, m, api.LgAdd, b)
		if (code == api.AckOk) == taken {
			t.Fatalf("Apply(%s, %s): %d", tell(m), tell(b), code)
		}
		if taken {
			continue
		}
		added++
		if got, ok := Buddy(n, strings.ToUpper(b.Name)); got != b || !ok || Place(n, g.Group) == b.Id {
			t.Fatalf("%s: %s %t", tell(n), tell(got), ok)
		}
		back, code := lookAtApply(t, n, api.LgDel, b)
		if code != api.AckOk || !Same(back, m) {
			t.Fatalf("%s: %s %d", tell(n), tell(back), code)
		}
		if len(m.Items) > len(l.Items) {
			if back, code = lookAtApply(t, back, api.LgDel, g); code != api.AckOk || !Same(back, l) {
				t.Fatalf("%s: %s %d", tell(m), tell(back), code)
			}
		}
	}
	if added < 1000 {
		t.Fatal(added)
	}
}

// Lists that may be go over a legacy connection, and are the same behind it.
func TestOverAConnection(t *testing.T) {
	r := rand.New(rand.NewSource(9))
	for range 500 {
		l := randomList(r)
		channel, data, err := legacy.Put(api.Note{Kind: api.LgList, Items: l.Items, Time: l.Time}, 0)
		if err != api.OK {
			t.Fatal(tell(l), err)
		}
		n, err := legacy.Parse(channel, data)
		if got, e := lookAtPut(t, n.Time, n.Items...); err != api.OK || e != api.OK || !Same(got, l) {
			t.Fatal(tell(l), tell(n))
		}
	}
}

// Every call ends, and none panics, also of lists that may not be; what is handed in stays.
func TestAnyArguments(t *testing.T) {
	r := rand.New(rand.NewSource(17))
	many := make([]api.Item, 3000)
	for i := range many {
		many[i] = randomItem(r)
	}
	lists := []api.List{{}, {Items: many}, {Items: slices.Repeat([]api.Item{{}}, 3000)}, {Items: slices.Repeat([]api.Item{buddy(1, 1, strings.Repeat("J o", 9999))}, 200)}, of(slices.Repeat([]api.Item{group(1, "g")}, 50000)...)}
	for range 3000 {
		lists = append(lists, anyList(r))
	}
	for _, l := range lists {
		kept := api.List{Items: slices.Clone(l.Items), Time: l.Time}
		x := randomItem(r)
		for _, kind := range []int{0, 20, 21, 22, 23} {
			if m, code := Apply(l, kind, x); code != api.AckOk && !alike(m, l) {
				t.Fatalf("Apply(%s, %d, %s): %s %d", tell(l), kind, tell(x), tell(m), code)
			}
		}
		Buddy(l, x.Name)
		Group(l, x.Name)
		Title(l, x.Group)
		if Place(l, x.Group) < 1 || Room(l) < 1 || !Same(l, kept) {
			t.Fatal(tell(l))
		}
		Put(l.Time, l.Items...)
		lookAtCheck(t, l)
		if !alike(l, kept) {
			t.Fatalf("%s is not any more %s", tell(l), tell(kept))
		}
	}
}

// lies tells whether part is in the memory of s.
func lies(part, s string) bool {
	if part == "" || s == "" {
		return false
	}
	from, at := uintptr(unsafe.Pointer(unsafe.StringData(s))), uintptr(unsafe.Pointer(unsafe.StringData(part)))
	return at >= from && at < from+uintptr(len(s))
}

func texts(items ...api.Item) []string {
	var l []string
	for _, it := range items {
		l = append(l, it.Name, it.Alias)
	}
	return l
}

func lookApart(t *testing.T, what string, answer, given []string) {
	t.Helper()
	for _, a := range answer {
		for _, g := range given {
			if lies(a, g) {
				t.Fatalf("%s: %q lies in what was handed in", what, a)
			}
		}
	}
}

// Answers share nothing with what was handed in, nor with each other; lists that are handed in stay as they are, and
// their spare room does.
func TestApart(t *testing.T) {
	whole, spare := small(), api.Item{Name: "spare"}
	l := small()
	l.Items = append(slices.Grow(l.Items, 9), spare, spare, spare)[:len(whole.Items)]
	for _, c := range []struct {
		kind int
		x    api.Item
	}{
		{api.LgAdd, api.Item{Group: 1, Id: 3, Name: strings.Clone("eve"), Alias: strings.Clone("Alias")}}, {api.LgAdd, buddy(65535, 1, strings.Clone("last"))}, {api.LgSet, group(1, strings.Clone("other"))},
		{api.LgDel, buddy(1, 1, "")}, {api.LgDel, group(1, "")}, {api.LgSet, group(2, "none")}, {0, group(2, "none")},
	} {
		one, _ := Apply(l, c.kind, c.x)
		two, _ := Apply(l, c.kind, c.x)
		want, _ := applyOf(whole, c.kind, c.x)
		lookApart(t, "Apply", texts(one.Items...), append(texts(l.Items...), texts(c.x)...))
		lookApart(t, "Apply", texts(one.Items...), texts(two.Items...))
		spoil(one.Items)
		if !alike(l, whole) || !alike(two, want) || l.Items[:len(whole.Items)+1][len(whole.Items)] != spare {
			t.Fatalf("Apply(%d, %s): %s, %s", c.kind, tell(c.x), tell(l), tell(two))
		}
	}
	slices.Reverse(l.Items)
	slices.Reverse(whole.Items)
	one, _ := Put(7, l.Items...)
	two, _ := Put(7, l.Items...)
	lookApart(t, "Put", texts(one.Items...), texts(l.Items...))
	lookApart(t, "Put", texts(one.Items...), texts(two.Items...))
	spoil(one.Items)
	if !alike(l, whole) || !alike(two, small()) || l.Items[:len(whole.Items)+1][len(whole.Items)] != spare {
		t.Fatalf("Put: %s, %s", tell(l), tell(two))
	}
	b, _ := Buddy(two, "ann")
	g, _ := Group(two, "Friends")
	lookApart(t, "found", append(texts(b, g), Title(two, 1)), texts(two.Items...))
}

// spoil writes over an answer, and behind it.
func spoil(items []api.Item) {
	for i := range items {
		items[i] = api.Item{Name: "other"}
	}
	_ = append(items, api.Item{Name: "more"})
}

// All are pure functions: the same every time, also at the same time.
func TestPure(t *testing.T) {
	var all sync.WaitGroup
	shared := small()
	for seed := range int64(8) {
		all.Go(func() {
			r := rand.New(rand.NewSource(seed % 4))
			for range 1000 {
				x, kind := randomItem(r), 19+r.Intn(5)
				m, code := Apply(shared, kind, x)
				want, wantCode := applyOf(shared, kind, x)
				b, ok := Buddy(shared, x.Name)
				wantB, wantOk := buddyCalled(shared, x.Name)
				if !alike(m, want) || code != wantCode || b != wantB || ok != wantOk || Check(shared) != api.OK || Place(shared, 1) != 3 || Room(shared) != 2 {
					t.Error(kind, tell(x), tell(m), code)
				}
			}
		})
	}
	all.Wait()
}

// The chapter's example.
func TestExamples(t *testing.T) {
	l, err := Put(7, group(1, "Friends"), buddy(1, 1, "joe"))
	if err != api.OK {
		t.Fatal(err)
	}
	if b, ok := Buddy(l, "Joe"); !ok || b != buddy(1, 1, "joe") {
		t.Error(tell(b), ok)
	}
	if Place(l, 1) != 2 || Room(l) != 2 {
		t.Error(Place(l, 1), Room(l))
	}
}
