package legacy

import (
	"math"
	"math/rand"
	"reflect"
	"slices"
	"strings"
	"sync"
	"testing"
	"unsafe"

	"wharf/api"
	"wharf/snac"
)

const cookie = "\x00\xff12345\x80"

// some are notes of every Kind, with the bytes that P14.1 gives them, of channel 2 without the snac.
var some = []struct {
	note  api.Note
	bytes string
}{
	{api.Note{Kind: api.LgHello}, "\x00\x00\x00\x01"},
	{api.Note{Kind: api.LgCookie, Data: "c\x00"}, "\x00\x00\x00\x01\x00\x06\x00\x02c\x00"},
	{api.Note{Kind: api.LgCookie, Data: strings.Repeat("\xff", 256)}, "\x00\x00\x00\x01\x00\x06\x01\x00" + strings.Repeat("\xff", 256)},
	{api.Note{Kind: api.LgBye}, ""},
	{api.Note{Kind: api.LgBye, Code: 1}, "\x00\x09\x00\x02\x00\x01"},
	{api.Note{Kind: api.LgBye, Code: 65535}, "\x00\x09\x00\x02\xff\xff"},
	{api.Note{Kind: api.LgAlive}, ""},
	{api.Note{Kind: api.LgAskKey, Name: "Joe B"}, "\x00\x01\x00\x05Joe B"},
	{api.Note{Kind: api.LgKey, Data: "k\xfe"}, "\x00\x02k\xfe"},
	{api.Note{Kind: api.LgKey, Data: strings.Repeat("k", 64)}, "\x00\x40" + strings.Repeat("k", 64)},
	{api.Note{Kind: api.LgLogin, Name: "joe", Data: "0123456789abcdef"}, "\x00\x01\x00\x03joe\x00\x25\x00\x100123456789abcdef"},
	{api.Note{Kind: api.LgLet, Name: "12345", Data: "c"}, "\x00\x01\x00\x0512345\x00\x06\x00\x01c"},
	{api.Note{Kind: api.LgLet, Name: "12345", Code: 0x105}, "\x00\x01\x00\x0512345\x00\x08\x00\x02\x01\x05"},
	{api.Note{Kind: api.LgHost}, ""},
	{api.Note{Kind: api.LgReady}, ""},
	{api.Note{Kind: api.LgStatus}, "\x00\x06\x00\x04\x00\x00\x00\x00"},
	{api.Note{Kind: api.LgStatus, Status: 0xfe01}, "\x00\x06\x00\x04\x00\x00\xfe\x01"},
	{api.Note{Kind: api.LgIdle}, "\x00\x00\x00\x00"},
	{api.Note{Kind: api.LgIdle, Idle: 1<<32 - 2}, "\xff\xff\xff\xfe"},
	{api.Note{Kind: api.LgOnline, Name: "joe", Status: 1, Idle: 0x102}, "\x03joe\x00\x06\x00\x04\x00\x00\x00\x01\x00\x04\x00\x02\x01\x02"},
	{api.Note{Kind: api.LgOffline, Name: "J o E"}, "\x05J o E"},
	{api.Note{Kind: api.LgSend, Name: "joe", Text: "hi\u00e9", Data: cookie}, cookie + "\x03joe\x00\x02\x00\x04hi\u00e9"},
	{api.Note{Kind: api.LgText, Name: "joe", Data: cookie}, cookie + "\x03joe\x00\x02\x00\x00"},
	{api.Note{Kind: api.LgAskList, Time: 7, Code: 258}, "\x00\x00\x00\x07\x01\x02"},
	{api.Note{Kind: api.LgList}, "\x00\x00\x00\x00\x00\x00"},
	{
		api.Note{Kind: api.LgList, Time: 0x12345678, Items: []api.Item{
			{Type: api.ItemGroup, Group: 1, Name: "g"}, {Type: api.ItemGroup}, {Name: "joe", Group: 258, Id: 2, Alias: "J", Await: true},
			{Name: "bob"}, {Name: "eve", Await: true}, {Name: "ann", Id: 65535, Alias: "\u00e9"},
		}},
		"\x00\x06" + "\x00\x01g\x00\x01\x00\x00\x00\x01\x00\x00" + "\x00\x00\x00\x00\x00\x00\x00\x01\x00\x00" +
			"\x00\x03joe\x01\x02\x00\x02\x00\x00\x00\x09\x01\x31\x00\x01J\x00\x66\x00\x00" + "\x00\x03bob\x00\x00\x00\x00\x00\x00\x00\x00" +
			"\x00\x03eve\x00\x00\x00\x00\x00\x00\x00\x04\x00\x66\x00\x00" + "\x00\x03ann\x00\x00\xff\xff\x00\x00\x00\x06\x01\x31\x00\x02\u00e9" +
			"\x12\x34\x56\x78",
	},
	{api.Note{Kind: api.LgSame, Time: 1<<32 - 1, Code: 65535}, "\xff\xff\xff\xff\xff\xff"},
	{api.Note{Kind: api.LgAdd, Items: []api.Item{{Name: "joe", Group: 1, Id: 2}, {Name: "bob"}}}, "\x00\x03joe\x00\x01\x00\x02\x00\x00\x00\x00\x00\x03bob\x00\x00\x00\x00\x00\x00\x00\x00"},
	{api.Note{Kind: api.LgSet, Items: []api.Item{{Name: "g h", Group: 65535, Type: 1}}}, "\x00\x03g h\xff\xff\x00\x00\x00\x01\x00\x00"},
	{api.Note{Kind: api.LgDel, Items: []api.Item{{Name: "joe", Alias: "a"}}}, "\x00\x03joe\x00\x00\x00\x00\x00\x00\x00\x05\x01\x31\x00\x01a"},
	{api.Note{Kind: api.LgBegin}, ""},
	{api.Note{Kind: api.LgEnd}, ""},
	{api.Note{Kind: api.LgAck, Codes: []int{0, 14, 65535}}, "\x00\x00\x00\x0e\xff\xff"},
	{api.Note{Kind: api.LgAskAuth, Name: "joe", Text: "please"}, "\x03joe\x00\x06please"},
	{api.Note{Kind: api.LgWants, Name: "joe"}, "\x03joe\x00\x00"},
	{api.Note{Kind: api.LgGrant, Name: "joe", Ok: true, Text: "y"}, "\x03joe\x01\x00\x01y"},
	{api.Note{Kind: api.LgGrants, Name: "joe", Text: strings.Repeat("n", 2000)}, "\x03joe\x00\x07\xd0" + strings.Repeat("n", 2000)},
}

func lookAtCheck(t *testing.T, n api.Note) api.Errno {
	t.Helper()
	got := Check(n)
	if want := checkOf(n); got != want {
		t.Fatalf("Check(%s): %v, not %v", tell(n), got, want)
	}
	return got
}

// lookAtPut holds Check and Put of n against the model, and Parse of what was put against n.
func lookAtPut(t *testing.T, n api.Note, req int64) (int, string, api.Errno) {
	t.Helper()
	lookAtCheck(t, n)
	channel, b, err := Put(n, req)
	wantChannel, want, wantErr := putOf(n, req)
	if channel != wantChannel || b != want || err != wantErr {
		t.Fatalf("Put(%s, %d): %d %s %v, not %d %s %v", tell(n), req, channel, short(b), err, wantChannel, short(want), wantErr)
	}
	if err == api.OK {
		if back, e := Parse(channel, b); e != api.OK || !alike(back, n) {
			t.Fatalf("Parse of Put(%s, %d): %s %v", tell(n), req, tell(back), e)
		}
	}
	return channel, b, err
}

// alike is Same as reflect sees it, where nil and empty lists are the same.
func alike(a, b api.Note) bool {
	for _, n := range []*api.Note{&a, &b} {
		if len(n.Items) == 0 {
			n.Items = nil
		}
		if len(n.Codes) == 0 {
			n.Codes = nil
		}
	}
	return reflect.DeepEqual(a, b)
}

// lookAtParse holds Parse against the model, and Put of what was parsed against the bytes.
func lookAtParse(t *testing.T, channel int, data string) api.Errno {
	t.Helper()
	got, err := Parse(channel, data)
	want, wantErr := parseOf(channel, data)
	if !alike(got, want) || err != wantErr {
		t.Fatalf("Parse(%d, %s): %s %v, not %s %v", channel, short(data), tell(got), err, tell(want), wantErr)
	}
	if err != api.OK {
		return err
	}
	if channel == 2 { // Flags and Req are not kept
		data = data[:4] + "\x00\x00\x00\x00\x00\x00" + data[10:]
	}
	if c, back, e := Put(got, 0); c != channel || back != data || e != api.OK {
		t.Fatalf("Put of Parse(%d, %s): %d %s %v", channel, short(data), c, short(back), e)
	}
	return err
}

// changed answers notes that have another value in one of the fields.
func changed(n api.Note) []api.Note {
	var l []api.Note
	add := func(change func(m *api.Note)) {
		m := n
		m.Items, m.Codes = slices.Clone(n.Items), slices.Clone(n.Codes)
		change(&m)
		l = append(l, m)
	}
	for _, x := range numbers() {
		add(func(m *api.Note) { m.Kind = int(x) })
		add(func(m *api.Note) { m.Code = int(x) })
		add(func(m *api.Note) { m.Status = int(x) })
		add(func(m *api.Note) { m.Idle = x })
		add(func(m *api.Note) { m.Time = x })
		add(func(m *api.Note) { m.Codes = []int{int(x)} })
		add(func(m *api.Note) { m.Codes = []int{3, int(x), 4} })
		add(func(m *api.Note) { m.Items = []api.Item{{Name: "joe", Group: int(x)}} })
		add(func(m *api.Note) { m.Items = []api.Item{{Name: "joe", Id: int(x)}, {Name: "bob"}} })
		add(func(m *api.Note) { m.Items = []api.Item{{Name: "bob"}, {Name: "joe", Type: int(x)}} })
		add(func(m *api.Note) { m.Items = []api.Item{{Name: "joe", Type: 1, Group: int(x)}} })
		add(func(m *api.Note) { m.Items = []api.Item{{Name: "joe", Type: 1, Id: int(x)}} })
	}
	for _, s := range slices.Concat(texts(), names()) {
		add(func(m *api.Note) { m.Name = s })
		add(func(m *api.Note) { m.Text = s })
		add(func(m *api.Note) { m.Data = s })
		for kind := range 2 {
			for _, await := range []bool{false, true} {
				add(func(m *api.Note) { m.Items = []api.Item{{Name: s, Type: kind, Await: await}} })
				add(func(m *api.Note) {
					m.Items = []api.Item{{Name: "joe"}, {Name: "bob", Type: kind, Alias: s, Await: await}}
				})
			}
		}
	}
	for _, size := range []int{0, 1, 2, 50, 99, 100, 101, 102, 200, 256, 1000, 65536, 65537, 65636} {
		add(func(m *api.Note) { m.Codes = make([]int, size) })
		add(func(m *api.Note) { m.Items = slices.Repeat([]api.Item{{Name: "joe"}}, size) })
		add(func(m *api.Note) { m.Items = slices.Repeat([]api.Item{{Type: 1}}, size) })
		if size > 0 {
			add(func(m *api.Note) { m.Codes = append(make([]int, size-1), 65536) })
			add(func(m *api.Note) { m.Items = append(slices.Repeat([]api.Item{{Name: "joe"}}, size-1), api.Item{}) })
		}
	}
	add(func(m *api.Note) { m.Ok = !m.Ok })
	add(func(m *api.Note) { m.Data, m.Code = "c", 0 })
	add(func(m *api.Note) { m.Data, m.Code = "", 5 })
	add(func(m *api.Note) { m.Data, m.Code = "c", 5 })
	add(func(m *api.Note) { m.Data, m.Code = "", 0 })
	return l
}

// P14.1, P14.2: the bytes of notes of every Kind, and their snacs.
func TestBytes(t *testing.T) {
	kinds := map[int]bool{}
	for _, c := range some {
		kinds[c.note.Kind] = true
		w, _ := rowOf(c.note.Kind)
		want := c.bytes
		if w.channel == 2 {
			want, _ = snac.Put(api.Snac{Family: w.family, Sub: w.sub, Req: 0x1234, Body: c.bytes})
		}
		channel, b, err := lookAtPut(t, c.note, 0x1234)
		if channel != w.channel || b != want || err != api.OK {
			t.Fatalf("%s: %d %s %v, not %s", tell(c.note), channel, short(b), err, short(want))
		}
		if n, err := Parse(channel, want); err != api.OK || !alike(n, c.note) {
			t.Fatalf("%s: %s %v", tell(c.note), tell(n), err)
		}
	}
	if len(kinds) != api.LgMost {
		t.Fatal(len(kinds))
	}
}

// P14.1: each field of each Kind, with numbers, texts, names and lists around the bounds; those that a Kind has not.
func TestCheck(t *testing.T) {
	for _, c := range some {
		if err := lookAtCheck(t, c.note); err != api.OK {
			t.Fatal(tell(c.note), err)
		}
		seen := map[api.Errno]int{}
		for _, n := range changed(c.note) {
			seen[lookAtCheck(t, n)]++
		}
		if seen[api.OK] == 0 || seen[api.ErrLegacy] < 100 {
			t.Fatal(tell(c.note), seen)
		}
	}
	for kind := -1000; kind < 70000; kind++ {
		lookAtCheck(t, api.Note{Kind: kind})
		lookAtCheck(t, api.Note{Kind: kind, Name: "joe"})
	}
	for _, kind := range numbers() {
		lookAtCheck(t, api.Note{Kind: int(kind), Name: "joe", Text: "x", Data: cookie})
	}
}

// P14.1: bounds, by their numbers.
func TestCheckAtTheBounds(t *testing.T) {
	x := func(n int) string { return strings.Repeat("x", n) }
	joes := func(n int) []api.Item { return slices.Repeat([]api.Item{{Name: "joe"}}, n) }
	item := func(it api.Item) api.Note { return api.Note{Kind: api.LgSet, Items: []api.Item{it}} }
	send := api.Note{Kind: api.LgSend, Name: "joe", Data: cookie}
	with := func(s string) api.Note { n := send; n.Text = s; return n }
	for _, good := range []api.Note{
		{Kind: api.LgCookie, Data: x(1)}, {Kind: api.LgCookie, Data: x(256)}, {Kind: api.LgKey, Data: x(1)}, {Kind: api.LgKey, Data: x(64)},
		{Kind: api.LgLet, Name: "joe", Data: x(256)}, {Kind: api.LgLet, Name: "joe", Code: 65535}, {Kind: api.LgLet, Name: "joe", Code: 1},
		{Kind: api.LgStatus, Status: 65535}, {Kind: api.LgIdle, Idle: 4294967295}, {Kind: api.LgOnline, Name: "joe", Idle: 65535, Status: 65535},
		with(x(2000)), with(x(1998) + "\u00e9"), with("\t\n\r"), {Kind: api.LgList, Items: joes(100), Time: 4294967295}, {Kind: api.LgList},
		{Kind: api.LgAdd, Items: joes(100)}, {Kind: api.LgAck, Codes: make([]int, 100)},
		item(api.Item{Name: x(16), Alias: x(64), Await: true, Group: 65535, Id: 65535}), item(api.Item{Type: 1, Name: x(64)}), item(api.Item{Type: 1}),
	} {
		if err := lookAtCheck(t, good); err != api.OK {
			t.Fatal(tell(good), err)
		}
	}
	for _, bad := range []api.Note{
		{}, {Kind: 30}, {Kind: -1}, {Kind: api.LgHello, Data: "c"}, {Kind: api.LgCookie}, {Kind: api.LgCookie, Data: x(257)}, {Kind: api.LgKey, Data: x(65)}, {Kind: api.LgKey},
		{Kind: api.LgBye, Code: -1}, {Kind: api.LgBye, Code: 65536}, {Kind: api.LgAlive, Ok: true}, {Kind: api.LgAskKey}, {Kind: api.LgAskKey, Name: "jo"},
		{Kind: api.LgLogin, Name: "joe", Data: x(15)}, {Kind: api.LgLogin, Name: "joe", Data: x(17)}, {Kind: api.LgLogin, Data: x(16)},
		{Kind: api.LgLet, Name: "joe"}, {Kind: api.LgLet, Name: "joe", Data: "c", Code: 1}, {Kind: api.LgLet, Name: "joe", Code: 65536}, {Kind: api.LgLet, Name: "joe", Code: -1}, {Kind: api.LgLet, Name: "joe", Data: x(257)},
		{Kind: api.LgStatus, Status: 65536}, {Kind: api.LgStatus, Status: -1}, {Kind: api.LgIdle, Idle: 4294967296}, {Kind: api.LgIdle, Idle: -1},
		{Kind: api.LgOnline, Name: "joe", Idle: 65536}, {Kind: api.LgOnline, Name: "joe", Status: 65536},
		with(x(2001)), with(x(1999) + "\u00e9"), with("\x00"), with("\xff"), {Kind: api.LgSend, Name: "joe", Data: x(7)}, {Kind: api.LgSend, Name: "joe", Data: x(9)}, {Kind: api.LgText, Name: "joe"},
		{Kind: api.LgAskList, Time: 4294967296}, {Kind: api.LgAskList, Time: -1}, {Kind: api.LgSame, Code: 65536},
		{Kind: api.LgList, Time: 4294967296}, {Kind: api.LgList, Items: joes(101)}, {Kind: api.LgAdd}, {Kind: api.LgSet, Items: []api.Item{}}, {Kind: api.LgDel}, {Kind: api.LgAdd, Items: joes(101)},
		{Kind: api.LgAck}, {Kind: api.LgAck, Codes: make([]int, 101)}, {Kind: api.LgAck, Codes: []int{-1}}, {Kind: api.LgAck, Codes: []int{65536}},
		{Kind: api.LgGrant, Ok: true}, {Kind: api.LgGrants, Name: "joe", Text: x(2001)}, {Kind: api.LgAskAuth, Name: "joe", Ok: true}, {Kind: api.LgWants, Name: ""},
		item(api.Item{}), item(api.Item{Name: "jo"}), item(api.Item{Name: "joe", Alias: x(65)}), item(api.Item{Name: "joe", Alias: "\x00"}), item(api.Item{Name: "joe", Group: -1}), item(api.Item{Name: "joe", Id: 65536}), item(api.Item{Name: "joe", Type: 2}), item(api.Item{Name: "joe", Type: -1}),
		item(api.Item{Type: 1, Name: x(65)}), item(api.Item{Type: 1, Name: "\xff"}), item(api.Item{Type: 1, Alias: "a"}), item(api.Item{Type: 1, Await: true}), item(api.Item{Type: 1, Group: 65536}), item(api.Item{Type: 1, Id: -1}),
	} {
		if err := lookAtCheck(t, bad); err != api.ErrLegacy {
			t.Fatal(tell(bad), err)
		}
	}
}

// P14.1: the same in each field, and list by list, also those that may not be.
func TestSame(t *testing.T) {
	whole := api.Note{Kind: -1, Name: "n", Text: "t", Data: "d", Code: -2, Status: 3, Idle: 4, Time: 5, Ok: true, Items: []api.Item{{Name: "a", Group: 1, Id: 2, Type: 3, Alias: "b", Await: true}, {}}, Codes: []int{1, 2}}
	var unlike []api.Note
	add := func(change func(n *api.Note)) {
		n := whole
		n.Items, n.Codes = slices.Clone(n.Items), slices.Clone(n.Codes)
		change(&n)
		unlike = append(unlike, n)
	}
	add(func(n *api.Note) { n.Kind = 1 })
	add(func(n *api.Note) { n.Name = "N" })
	add(func(n *api.Note) { n.Text = "" })
	add(func(n *api.Note) { n.Data = "d " })
	add(func(n *api.Note) { n.Code = 2 })
	add(func(n *api.Note) { n.Status = 0 })
	add(func(n *api.Note) { n.Idle = 4 + 1<<32 })
	add(func(n *api.Note) { n.Time = -5 })
	add(func(n *api.Note) { n.Ok = false })
	add(func(n *api.Note) { n.Items = nil })
	add(func(n *api.Note) { n.Items = n.Items[:1] })
	add(func(n *api.Note) { n.Items = append(n.Items, api.Item{}) })
	add(func(n *api.Note) { slices.Reverse(n.Items) })
	add(func(n *api.Note) { n.Items[0].Name = "A" })
	add(func(n *api.Note) { n.Items[0].Group = 0 })
	add(func(n *api.Note) { n.Items[0].Id = 0 })
	add(func(n *api.Note) { n.Items[0].Type = 0 })
	add(func(n *api.Note) { n.Items[0].Alias = "" })
	add(func(n *api.Note) { n.Items[0].Await = false })
	add(func(n *api.Note) { n.Items[1].Await = true })
	add(func(n *api.Note) { n.Codes = []int{} })
	add(func(n *api.Note) { n.Codes = []int{1} })
	add(func(n *api.Note) { n.Codes = []int{2, 1} })
	add(func(n *api.Note) { n.Codes = []int{1, 2, 0} })
	unlike = append(unlike, whole, api.Note{})
	for _, c := range some {
		unlike = append(unlike, c.note)
	}
	for i, a := range unlike {
		for j, b := range unlike {
			b.Items, b.Codes = slices.Clone(b.Items), slices.Clone(b.Codes)
			if got := Same(a, b); got != (i == j) {
				t.Fatalf("Same(%s, %s): %v", tell(a), tell(b), got)
			}
		}
	}
	if !Same(api.Note{Items: []api.Item{}}, api.Note{Codes: []int{}}) {
		t.Fatal("nil and an empty list are not the same")
	}
}

// P14.2: any Req; only in a snac it matters. Bodies that are too long for a snac.
func TestPut(t *testing.T) {
	for _, c := range some {
		for _, req := range numbers() {
			_, b, err := lookAtPut(t, c.note, req)
			w, _ := rowOf(c.note.Kind)
			if wrong := w.channel == 2 && (req < 0 || req >= 1<<32); wrong != (err == api.ErrLegacy) || wrong && b != "" {
				t.Fatalf("Put(%s, %d): %s %v", tell(c.note), req, short(b), err)
			}
		}
		for _, n := range changed(c.note) {
			lookAtPut(t, n, 5)
		}
	}
	long := api.Item{Name: "a234567890123456", Alias: strings.Repeat("x", 64), Await: true} // 98 bytes
	for _, kind := range []int{api.LgList, api.LgAdd, api.LgSet, api.LgDel} {
		for _, size := range []int{82, 83, 84, 85, 100} {
			for more := range 99 {
				n := api.Note{Kind: kind, Items: slices.Repeat([]api.Item{long}, size)}
				if more < 65 {
					n.Items[size-1].Alias = strings.Repeat("y", more)
				} else {
					n.Items[0] = api.Item{Type: 1, Name: strings.Repeat("z", more-65)}
				}
				lookAtPut(t, n, 1)
			}
		}
	}
}

// P14.2: a body with just as many bytes as a snac has room for, and with one more.
func TestPutTheLongest(t *testing.T) {
	n := api.Note{Kind: api.LgDel}
	for range 83 {
		n.Items = append(n.Items, api.Item{Name: "a234567890123456", Alias: strings.Repeat("x", 64), Await: true})
	}
	n.Items = append(n.Items, api.Item{Type: 1, Name: strings.Repeat("x", 8182-83*98-10)})
	channel, b, err := lookAtPut(t, n, 1)
	if channel != 2 || len(b) != api.MaxFrame || err != api.OK {
		t.Fatal(channel, len(b), err)
	}
	n.Items[83].Name += "x"
	if channel, b, err := lookAtPut(t, n, 1); channel != 0 || b != "" || err != api.ErrLegacy {
		t.Fatal(channel, len(b), err)
	}
}

// framed answers the bytes of n on its channel.
func framed(n api.Note, body string) (int, string) {
	w, _ := rowOf(n.Kind)
	if w.channel == 2 {
		return 2, snacOf(w.family, w.sub, 0x8001, 0xfffefdfc, body)
	}
	return w.channel, body
}

// P14.3: each byte of each note is another one, one is away, one is more; all ends.
func TestParseChanged(t *testing.T) {
	for _, c := range some {
		channel, b := framed(c.note, c.bytes)
		if err := lookAtParse(t, channel, b); err != api.OK {
			t.Fatal(tell(c.note), err)
		}
		for at := range len(b) + 1 {
			lookAtParse(t, channel, b[:at])
			for _, more := range []string{"\x00", "\x01", "x", "\xff", "\x00\x06", "\x00\x66\x00\x00"} {
				lookAtParse(t, channel, b[:at]+more+b[at:])
			}
			if at == len(b) {
				continue
			}
			lookAtParse(t, channel, b[:at]+b[at+1:])
			for x := range 256 {
				if len(b) > 600 && x%16 != 1 {
					continue
				}
				lookAtParse(t, channel, b[:at]+string([]byte{byte(x)})+b[at+1:])
			}
		}
	}
}

// P14.3: two bytes at once, in the short ones.
func TestParseTwoChanged(t *testing.T) {
	r := rand.New(rand.NewSource(14))
	letters := "\x00\x00\x01\x02\x03\x04\x06\x08\x09\x25\x31\x66\xffja "
	for _, c := range some {
		channel, b := framed(c.note, c.bytes)
		for range 3000 {
			m := []byte(b)
			for range 1 + r.Intn(4) {
				if len(m) == 0 {
					break
				}
				at := r.Intn(len(m))
				switch r.Intn(4) {
				case 0:
					m = slices.Delete(m, at, min(len(m), at+1+r.Intn(4)))
				case 1:
					m = slices.Insert(m, at, letters[r.Intn(len(letters))])
				default:
					m[at] = letters[r.Intn(len(letters))]
				}
			}
			lookAtParse(t, channel, string(m))
		}
	}
}

// P14.3: all short bodies of what matters, on all channels and of all families and subs that there are.
func TestParseShort(t *testing.T) {
	heads := []struct {
		channel int
		head    string
	}{{0, ""}, {1, ""}, {3, ""}, {4, ""}, {5, ""}, {2, ""}}
	for _, w := range rows {
		if w.channel == 2 {
			heads = append(heads, struct {
				channel int
				head    string
			}{2, snacOf(w.family, w.sub, 1, 2, "")})
		}
	}
	found := map[int]int{}
	var look func(channel int, b string, left int)
	look = func(channel int, b string, left int) {
		if lookAtParse(t, channel, b) == api.OK {
			n, _ := Parse(channel, b)
			found[n.Kind]++
		}
		if left > 0 {
			for _, x := range "\x00\x01\x02\x03\x06" {
				look(channel, b+string(x), left-1)
			}
		}
	}
	for _, h := range heads {
		look(h.channel, h.head, 6)
	}
	for _, kind := range []int{api.LgHello, api.LgBye, api.LgAlive, api.LgKey, api.LgHost, api.LgReady, api.LgIdle, api.LgAskList, api.LgList, api.LgSame, api.LgBegin, api.LgEnd, api.LgAck} {
		if found[kind] == 0 {
			t.Fatal(kind, found)
		}
	}
}

// P14.3: no other channel, no other family, no other sub has notes; Flags and Req do not matter.
func TestParseElsewhere(t *testing.T) {
	bodies := []string{}
	for _, c := range some {
		if len(c.bytes) < 100 {
			bodies = append(bodies, c.bytes)
		}
	}
	for _, b := range bodies {
		for channel := -300; channel < 70000; channel += 1 + channel/300*97 {
			lookAtParse(t, channel, b)
		}
		for _, channel := range numbers() {
			lookAtParse(t, int(channel), b)
			lookAtParse(t, int(channel), snacOf(1, 3, 0, 0, b))
		}
		for family := range 0x40 {
			for sub := range 0x40 {
				lookAtParse(t, 2, snacOf(family, sub, 0, 0, b))
			}
		}
	}
	for family := range 1 << 16 {
		for _, sub := range []int{2, 3, 6, 0x11, 0x12, 0x1e} {
			lookAtParse(t, 2, snacOf(family, sub, 0, 0, ""))
			lookAtParse(t, 2, snacOf(sub, family, 0, 0, ""))
			lookAtParse(t, 2, snacOf(1, family, family, int64(family)*65537, ""))
		}
	}
	for _, c := range some {
		channel, _ := framed(c.note, c.bytes)
		if channel != 2 {
			continue
		}
		w, _ := rowOf(c.note.Kind)
		for _, x := range numbers() {
			b := snacOf(w.family, w.sub, int(x&0xffff), x&0xffffffff, c.bytes)
			if n, err := Parse(2, b); err != api.OK || !alike(n, c.note) {
				t.Fatalf("%s with Flags %d: %s %v", tell(c.note), x, tell(n), err)
			}
		}
	}
}

// P14.3: bytes that are like those of a note, but none's.
func TestParseWrong(t *testing.T) {
	head := func(family, sub int) string { return snacOf(family, sub, 0, 0, "") }
	joe := "\x00\x03joe"
	for b, channel := range map[string]int{
		"": 1, "\x00\x00\x00\x02": 1, "\x00\x00\x00\x01\x00\x06\x00\x00": 1, "\x00\x00\x00\x01\x00\x07\x00\x01c": 1, "\x00\x00\x00\x02\x00\x06\x00\x01c": 1,
		"\x00\x09\x00\x02\x00\x00": 4, "\x00\x09\x00\x01\x01": 4, "\x00\x09\x00\x04\x00\x00\x00\x01": 4, "\x00\x08\x00\x02\x00\x01": 4, "x": 5,
		head(1, 0x1e) + "\x00\x06\x00\x04\x00\x01\x00\x00":                                2, // a Status past its bound
		head(1, 0x1e) + "\x00\x06\x00\x04\xff\xff\xff\xff":                                2,
		head(1, 0x1e) + "\x00\x06\x00\x02\x00\x01":                                        2, // as many bytes as it has not
		head(0x17, 3) + "\x00\x01" + joe + "\x00\x06\x00\x00":                             2,
		head(0x17, 3) + "\x00\x01" + joe + "\x00\x08\x00\x02\x00\x00":                     2,
		head(0x17, 3) + "\x00\x01" + joe + "\x00\x06\x00\x01c\x00\x08\x00\x02\x00\x01":    2, // both
		head(0x17, 3) + "\x00\x01" + joe + "\x00\x08\x00\x02\x00\x01\x00\x06\x00\x01c":    2,
		head(0x17, 3) + "\x00\x06\x00\x01c\x00\x01" + joe:                                 2, // the other way round
		head(0x13, 0x1a) + "\x03joe\x02\x00\x00":                                          2, // neither 1 nor 0
		head(0x13, 0x1a) + "\x03joe\xff\x00\x00":                                          2,
		head(0x13, 6) + "\x00\x01\x00\x00\x00\x00":                                        2, // an item too few
		head(0x13, 6) + "\x00\x00" + joe + "\x00\x00\x00\x00\x00\x00\x00\x00\x00\x00\x00": 2, // and too many
		head(0x13, 8):            2,
		head(0x13, 0xe):          2,
		head(0x13, 0xe) + "\x00": 2,
		head(0x13, 8) + joe + "\x00\x00\x00\x00\x00\x00\x00\x04\x01\x31\x00\x00":                   2, // an Alias that is empty
		head(0x13, 8) + joe + "\x00\x00\x00\x00\x00\x00\x00\x05\x00\x66\x00\x01x":                  2, // an Await with bytes
		head(0x13, 8) + joe + "\x00\x00\x00\x00\x00\x00\x00\x09\x00\x66\x00\x00\x01\x31\x00\x01J":  2, // the other way round
		head(0x13, 8) + joe + "\x00\x00\x00\x00\x00\x00\x00\x0a\x01\x31\x00\x01J\x01\x31\x00\x01J": 2,
		head(0x13, 8) + joe + "\x00\x00\x00\x00\x00\x00\x00\x04\x00\x67\x00\x00":                   2,
		head(0x13, 8) + "\x00\x01g\x00\x00\x00\x00\x00\x01\x00\x04\x00\x66\x00\x00":                2, // a group that is awaited
		head(0x13, 8) + "\x00\x01g\x00\x00\x00\x00\x00\x00\x00\x00":                                2, // no name
		head(0x13, 8) + joe + "\x00\x00\x00\x00\x00\x02\x00\x00":                                   2, // neither a buddy nor a group
		head(4, 6) + cookie + "\x03joe\x00\x02\x00\x01\x00":                                        2, // no text
		head(4, 6) + cookie + "\x02jo\x00\x02\x00\x01x":                                            2,
		head(3, 0xb) + "\x03joe\x00\x04\x00\x02\x00\x00\x00\x06\x00\x04\x00\x00\x00\x00":           2,
	} {
		if n, err := Parse(channel, b); err != api.ErrLegacy || !alike(n, api.Note{}) {
			t.Fatalf("Parse(%d, %s): %s %v", channel, short(b), tell(n), err)
		}
		lookAtParse(t, channel, b)
	}
}

// P14.3: more than a note may have, where its bytes have room for it.
func TestParseTooMuch(t *testing.T) {
	item := "\x00\x03joe\x00\x00\x00\x00\x00\x00\x00\x00"
	for _, size := range []int{0, 1, 2, 63, 64, 65, 99, 100, 101, 102, 255, 256, 257, 629, 1999, 2000, 2001, 4091, 8164, 8182, 8183, 65535, 65536, 1 << 20} {
		x := strings.Repeat("x", size)
		for _, width := range []int{1, 2} {
			n := be(int64(size), width)
			for _, w := range rows {
				if w.channel != 2 {
					continue
				}
				for _, ahead := range []string{"", "\x00\x01", "\x03joe", cookie + "\x03joe\x00\x02", "\x03joe\x01", "\x00\x01\x00\x03joe\x00\x06", "\x00\x01\x00\x03joe\x00\x25"} {
					lookAtParse(t, 2, snacOf(w.family, w.sub, 0, 0, ahead+n+x))
				}
			}
			lookAtParse(t, 1, "\x00\x00\x00\x01\x00\x06"+n+x)
			lookAtParse(t, 4, "\x00\x09"+n+x)
			lookAtParse(t, 5, n+x)
		}
		lookAtParse(t, 2, snacOf(0x13, 0xe, 0, 0, strings.Repeat("\x00\x01", size)))
		for _, sub := range []int{8, 9, 0xa} {
			lookAtParse(t, 2, snacOf(0x13, sub, 0, 0, strings.Repeat(item, size)))
		}
		for _, count := range []int{0, 1, size - 1, size, size + 1, 100, 101, 65535} {
			lookAtParse(t, 2, snacOf(0x13, 6, 0, 0, be(int64(count&0xffff), 2)+strings.Repeat(item, size)+"\x00\x00\x00\x07"))
			lookAtParse(t, 2, snacOf(0x13, 6, 0, 0, be(int64(count&0xffff), 2)+strings.Repeat("\x00\x00\x00\x01\x00\x02\x00\x01\x00\x00", size)+"\x00\x00\x00\x07"))
		}
	}
	for _, size := range []int{1 << 16, 1<<24 + 5} {
		for _, fill := range []string{"\x00", "\x01", "x", "\xff"} {
			for channel := range 7 {
				if n, err := Parse(channel, strings.Repeat(fill, size)); err != api.ErrLegacy || !alike(n, api.Note{}) {
					t.Fatalf("%d bytes %s on channel %d: %s %v", size, short(fill), channel, tell(n), err)
				}
			}
		}
	}
}

// P14.4: each Kind, those around, and any other.
func TestClass(t *testing.T) {
	look := func(kind int) {
		t.Helper()
		want := 0
		if w, ok := rowOf(kind); ok && w.channel == 2 {
			want = snac.Class(w.family, w.sub)
		}
		if got := Class(kind); got != want {
			t.Fatalf("Class(%d): %d, not %d", kind, got, want)
		}
	}
	for kind := -70000; kind < 70000; kind++ {
		look(kind)
	}
	for _, kind := range numbers() {
		look(int(kind))
	}
	for kind, want := range map[int]int{
		0: 0, api.LgHello: 0, api.LgCookie: 0, api.LgBye: 0, api.LgAlive: 0, 30: 0, -1: 0, math.MinInt: 0, math.MaxInt: 0,
		api.LgAskKey: 1, api.LgLogin: 1, api.LgReady: 1, api.LgStatus: 1, api.LgIdle: 1, api.LgOnline: 1, api.LgSend: 2, api.LgText: 2,
		api.LgAskList: 3, api.LgAdd: 3, api.LgSet: 3, api.LgDel: 3, api.LgBegin: 3, api.LgEnd: 3, api.LgAskAuth: 3, api.LgGrant: 3,
	} {
		if got := Class(kind); got != want {
			t.Fatalf("Class(%d): %d, not %d", kind, got, want)
		}
	}
}

// P14.5: there and back, of notes of every Kind; unlike ones have unlike bytes.
func TestThereAndBack(t *testing.T) {
	r := rand.New(rand.NewSource(5))
	type sent struct {
		channel int
		bytes   string
	}
	seen := map[sent]api.Note{}
	put := 0
	for i := range 12000 {
		n := randomNote(r, 1+i%api.LgMost)
		channel, b, err := lookAtPut(t, n, 7)
		if err != api.OK {
			continue
		}
		put++
		if back, e := Parse(channel, b); e != api.OK || !Same(back, n) {
			t.Fatalf("Parse of Put(%s): %s %v", tell(n), tell(back), e)
		}
		if other, ok := seen[sent{channel, b}]; ok && !Same(other, n) {
			t.Fatalf("%s and %s: %s", tell(n), tell(other), short(b))
		}
		seen[sent{channel, b}] = n
	}
	if put < 11000 {
		t.Fatal(put)
	}
	for _, c := range some {
		for _, n := range changed(c.note) {
			channel, b, err := Put(n, 7)
			if other, ok := seen[sent{channel, b}]; ok && err == api.OK && !Same(other, n) {
				t.Fatalf("%s and %s: %s", tell(n), tell(other), short(b))
			}
			if err == api.OK {
				seen[sent{channel, b}] = n
			}
		}
	}
}

// lies tells whether part is in the memory of s.
func lies(part, s string) bool {
	if part == "" || s == "" {
		return false
	}
	from, at := uintptr(unsafe.Pointer(unsafe.StringData(s))), uintptr(unsafe.Pointer(unsafe.StringData(part)))
	return at >= from && at < from+uintptr(len(s))
}

// Answers share nothing with what was handed in, nor with each other; lists that are handed in stay as they are.
func TestApart(t *testing.T) {
	for _, c := range some {
		n := c.note
		n.Items, n.Codes = slices.Grow(slices.Clone(n.Items), 3), slices.Grow(slices.Clone(n.Codes), 3)
		channel, b, _ := Put(n, 1)
		Check(n)
		Same(n, n)
		if !alike(n, c.note) {
			t.Fatal(tell(n))
		}
		for _, it := range n.Items[len(n.Items):cap(n.Items)] {
			if it != (api.Item{}) {
				t.Fatal(it)
			}
		}
		for _, x := range n.Codes[len(n.Codes):cap(n.Codes)] {
			if x != 0 {
				t.Fatal(x)
			}
		}
		one, _ := Parse(channel, b)
		two, _ := Parse(channel, b)
		parts := []string{one.Name, one.Text, one.Data}
		for _, it := range one.Items {
			parts = append(parts, it.Name, it.Alias)
		}
		for _, p := range parts {
			if lies(p, b) {
				t.Fatalf("%s: %s lies in what was handed in", tell(one), short(p))
			}
		}
		for _, p := range []string{n.Name, n.Text, n.Data} {
			if lies(b, p) || lies(p, b) {
				t.Fatalf("%s: bytes lie in what was handed in", tell(n))
			}
		}
		for i := range one.Items {
			one.Items[i] = api.Item{Name: "other"}
		}
		for i := range one.Codes {
			one.Codes[i] = -1
		}
		one.Items, one.Codes = append(one.Items, api.Item{}), append(one.Codes, 1)
		if !alike(two, c.note) {
			t.Fatal(tell(two))
		}
	}
}

// All are pure functions: the same every time, also at the same time.
func TestPure(t *testing.T) {
	var all sync.WaitGroup
	for seed := range int64(8) {
		all.Go(func() {
			r := rand.New(rand.NewSource(seed))
			for range 600 {
				c := some[r.Intn(len(some))]
				channel, b, err := Put(c.note, seed)
				wantChannel, want, wantErr := putOf(c.note, seed)
				back, e := Parse(channel, b)
				if channel != wantChannel || b != want || err != wantErr || e != api.OK || !Same(back, c.note) || Check(c.note) != api.OK {
					t.Error(tell(c.note), channel, short(b), err, tell(back), e)
				}
			}
		})
	}
	all.Wait()
}

// The chapter's example.
func TestExamples(t *testing.T) {
	if channel, b, err := Put(api.Note{Kind: api.LgBye, Code: 1}, -1); channel != 4 || b != "\x00\x09\x00\x02\x00\x01" || err != api.OK {
		t.Fatal(channel, short(b), err)
	}
}
