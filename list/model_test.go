package list

import (
	"fmt"
	"math"
	"math/rand"
	"slices"
	"strings"

	"wharf/api"
	"wharf/glyph"
	"wharf/handle"
)

// The model of a list: the promises' words, one by one, with the numbers that the chapters have.

func tell(x any) string {
	s := fmt.Sprintf("%+v", x)
	return s[:min(len(s), 600)]
}

// plainOf is a name without its blanks, all small.
func plainOf(name string) string {
	return strings.ToLower(strings.ReplaceAll(name, " ", ""))
}

// mayBeItem is what chapter 14 says of an item.
func mayBeItem(it api.Item) bool {
	if it.Group < 0 || it.Group > 65535 || it.Id < 0 || it.Id > 65535 {
		return false
	}
	text := func(s string) bool { return len(s) <= 64 && glyph.Check(s) == api.OK }
	if it.Type == 0 {
		return handle.Check(it.Name) == api.OK && text(it.Alias)
	}
	return it.Type == 1 && text(it.Name) && it.Alias == "" && !it.Await
}

func groupOf(it api.Item) bool {
	return mayBeItem(it) && it.Type == 1 && it.Group >= 1 && it.Id == 0 && it.Name != ""
}

func buddyOf(items []api.Item, it api.Item) bool {
	if !mayBeItem(it) || it.Type != 0 || it.Id < 1 {
		return false
	}
	for _, g := range items {
		if groupOf(g) && g.Group == it.Group {
			return true
		}
	}
	return false
}

// alikeNames tells whether a and b may not both be in a list.
func alikeNames(a, b api.Item) bool {
	if a.Type != b.Type {
		return false
	}
	if a.Type == 1 {
		return a.Name == b.Name
	}
	return plainOf(a.Name) == plainOf(b.Name)
}

func checkOf(l api.List) api.Errno {
	if len(l.Items) > 100 || l.Time < 0 || l.Time > 4294967295 {
		return 170
	}
	for i, it := range l.Items {
		if !groupOf(it) && !buddyOf(l.Items, it) {
			return 170
		}
		for j, other := range l.Items {
			behind := it.Group > other.Group || it.Group == other.Group && it.Id > other.Id
			if j < i && (!behind || alikeNames(it, other)) {
				return 170
			}
		}
	}
	return 0
}

// putOf moves each item ahead of those that are above it, one by one.
func putOf(time int64, items []api.Item) (api.List, api.Errno) {
	l := api.List{Time: time}
	for _, it := range items {
		at := len(l.Items)
		for at > 0 && (it.Group < l.Items[at-1].Group || it.Group == l.Items[at-1].Group && it.Id < l.Items[at-1].Id) {
			at--
		}
		l.Items = slices.Insert(l.Items, at, it)
	}
	if checkOf(l) != 0 {
		return api.List{}, 170
	}
	return l, 0
}

// atOf is where the item with that Group and Id stands; -1, if there is none.
func atOf(l api.List, x api.Item) int {
	for i, it := range l.Items {
		if it.Group == x.Group && it.Id == x.Id {
			return i
		}
	}
	return -1
}

func codeOfModel(l api.List, kind int, x api.Item) int {
	add, set, del, at := kind == 20, kind == 21, kind == 22, atOf(l, x)
	if !add && !set && !del {
		return 10
	}
	if (add || set) && !groupOf(x) && !buddyOf(l.Items, x) {
		return 10
	}
	if (set || del) && at < 0 {
		return 2
	}
	if add && at >= 0 {
		return 3
	}
	if del {
		for _, it := range l.Items {
			if l.Items[at].Type == 1 && it.Type == 0 && it.Group == l.Items[at].Group {
				return 10
			}
		}
		return 0
	}
	if set && l.Items[at].Type != x.Type {
		return 10
	}
	if add && len(l.Items) == 100 {
		return 12
	}
	for i, it := range l.Items {
		if i != at && alikeNames(it, x) {
			return 3
		}
	}
	return 0
}

func applyOf(l api.List, kind int, x api.Item) (api.List, int) {
	if code := codeOfModel(l, kind, x); code != 0 {
		return l, code
	}
	var items []api.Item
	for _, it := range l.Items {
		if it.Group != x.Group || it.Id != x.Id {
			items = append(items, it)
		}
	}
	if kind != 22 {
		items = append(items, x)
	}
	to, err := putOf(l.Time, items)
	if err != 0 {
		panic("the model made a list that may not be: " + tell(items))
	}
	return to, 0
}

func foundOf(l api.List, is func(it api.Item) bool) (api.Item, bool) {
	for _, it := range l.Items {
		if is(it) {
			return it, true
		}
	}
	return api.Item{}, false
}

func buddyCalled(l api.List, name string) (api.Item, bool) {
	return foundOf(l, func(it api.Item) bool { return it.Type == 0 && plainOf(it.Name) == plainOf(name) })
}

func groupCalled(l api.List, name string) (api.Item, bool) {
	return foundOf(l, func(it api.Item) bool { return it.Type == 1 && it.Name == name })
}

func leastOf(l api.List, taken func(it api.Item, n int) bool) int {
	n := 1
	for slices.ContainsFunc(l.Items, func(it api.Item) bool { return taken(it, n) }) {
		n++
	}
	return n
}

func freeIdOf(l api.List, group int) int {
	return leastOf(l, func(it api.Item, n int) bool { return it.Type == 0 && it.Group == group && it.Id == n })
}

func freeGroupOf(l api.List) int {
	return leastOf(l, func(it api.Item, n int) bool { return it.Type == 1 && it.Group == n })
}

func titleOfModel(l api.List, group int) string {
	it, _ := foundOf(l, func(it api.Item) bool { return it.Type == 1 && it.Group == group })
	return it.Name
}

// numbers are ends of numbers of all widths, and those around them.
func numbers() []int64 {
	l := []int64{math.MinInt64, math.MinInt64 + 1, math.MaxInt64, math.MaxInt64 - 1, 3, 5, 6, 7, 10, 99, 100, 101}
	for bit := range 63 {
		for off := int64(-1); off <= 1; off++ {
			l = append(l, 1<<bit+off, -1<<bit+off)
		}
	}
	return l
}

// names are such as buddies may have and such as they may not, and groups' ones.
func names() []string {
	l := []string{
		"", " ", "joe", "Joe", "J o E", "joe b", "joeb", "JoeB", "bob", "ann", "12345", "123456789", "1234", "1234567890", "01234", "jo", "joe ", " joe", "joe@mac.com", "joe@", "a@b@c",
		"jo\u00e9", "\u00e9", "joe\x00", "joe\xff", "\xff", "\x00", "\t", "\ufffe", "Friends", "friends", "Friends ", "a b",
	}
	for _, n := range []int{15, 16, 17, 63, 64, 65, 66, 1000} {
		l = append(l, strings.Repeat("x", n), strings.Repeat("x", n-2)+"\u00e9", strings.Repeat("x", n-1)+"\xff")
	}
	return l
}

// someItems are items of few values a field, of both Types, that may be and that may not.
func someItems() []api.Item {
	var l []api.Item
	for _, kind := range []int{0, 1, 2, -1} {
		for _, group := range []int{-1, 0, 1, 2, 3, 65535, 65536} {
			for _, id := range []int{-1, 0, 1, 2, 65535, 65536} {
				for _, name := range []string{"", "joe", "J OE", "bob", "g", "h", "jo\xff"} {
					l = append(l, api.Item{Name: name, Group: group, Id: id, Type: kind})
				}
			}
		}
	}
	return l
}

// randomItem is an item that often may be, in few Groups, of few names.
func randomItem(r *rand.Rand) api.Item {
	it := api.Item{Group: r.Intn(5), Id: r.Intn(5), Name: pick(r, "joe", "J oe", "JOE", "bob", "Bob", "ann", "eve", "12345", "mia", "tim"), Alias: pick(r, "", "", "A", "B\u00e9")}
	it.Await = r.Intn(3) == 0
	if r.Intn(3) == 0 {
		it = api.Item{Group: r.Intn(5), Type: 1, Name: pick(r, "joe", "JOE", "g", "G", "h", "Buddies", " ")}
	}
	switch r.Intn(40) {
	case 0:
		it.Type = r.Intn(4) - 1
	case 1:
		it.Name = pick(r, names()...)
	case 2:
		it.Group = []int{-1, 0, 65535, 65536}[r.Intn(4)]
	case 3:
		it.Id = []int{-1, 0, 65535, 65536}[r.Intn(4)]
	}
	return it
}

// randomList is a list that may be.
func randomList(r *rand.Rand) api.List {
	l := api.List{Time: r.Int63n(1 << 32)}
	for range r.Intn(40) {
		l, _ = applyOf(l, 20+r.Intn(2), randomItem(r))
	}
	return l
}

// anyList is one that seldom may be.
func anyList(r *rand.Rand) api.List {
	l := api.List{Time: r.Int63n(1<<33) - 1<<31}
	if r.Intn(2) == 0 {
		l = randomList(r)
	}
	for range r.Intn(4) {
		l.Items = slices.Insert(l.Items, r.Intn(len(l.Items)+1), randomItem(r))
	}
	return l
}

func pick(r *rand.Rand, l ...string) string {
	return l[r.Intn(len(l))]
}

// full is a list of that many items, which may be: ten buddies a group.
func full(size int) api.List {
	l := api.List{Time: 7}
	for i := range size {
		group, id := 1+i/11, i%11
		it := api.Item{Group: group, Id: id, Name: fmt.Sprintf("b%d.%d.", group, id)}
		if id == 0 {
			it = api.Item{Group: group, Type: 1, Name: fmt.Sprint("g", group)}
		}
		l.Items = append(l.Items, it)
	}
	return l
}
