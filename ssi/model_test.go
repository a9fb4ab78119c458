package ssi

import (
	"fmt"
	"math"
	"math/rand"
	"reflect"
	"slices"
	"strings"

	"wharf/api"
	"wharf/glyph"
	"wharf/handle"
	"wharf/list"
)

// The model of one's part: the promises' words, one by one, with the numbers that the chapters have.

func tell(x any) string {
	s := fmt.Sprintf("%+v", x)
	return s[:min(len(s), 700)]
}

func checkOf(w api.Wish) api.Errno {
	text := func(s string) bool { return len(s) <= 64 && glyph.Check(s) == 0 }
	if handle.Check(w.Name) != 0 || !text(w.Alias) || !text(w.Group) {
		return 2
	}
	may := map[int]bool{
		1: true,
		2: w.Alias == "" && w.Group == "" && !w.Await,
		3: w.Group == "" && !w.Await,
	}
	if !may[w.Kind] {
		return 2
	}
	return 0
}

func wantOf(s api.Ssi, w api.Wish) (api.Ssi, api.Errno) {
	if checkOf(w) != 0 {
		return s, 2
	}
	if len(s.Wishes) >= 20 {
		return s, 5
	}
	s.Wishes = slices.Concat(s.Wishes, []api.Wish{w})
	return s, 0
}

// plainOf is a name without its blanks, all small.
func plainOf(name string) string {
	return strings.ToLower(strings.ReplaceAll(name, " ", ""))
}

// atOf is where the buddy of that name stands; -1, if there is none.
func atOf(l api.List, name string) int {
	return slices.IndexFunc(l.Items, func(it api.Item) bool { return it.Type == 0 && plainOf(it.Name) == plainOf(name) })
}

// comesToOf answers the kind of the change (0, if there is none), its items, and the code.
func comesToOf(l api.List, w api.Wish) (int, []api.Item, int) {
	at := atOf(l, w.Name)
	if w.Kind == 1 {
		if at >= 0 {
			return 0, nil, map[bool]int{true: 14, false: 0}[l.Items[at].Await]
		}
		items := addsOf(l, w)
		if len(items)+len(l.Items) > 100 {
			return 0, nil, 12
		}
		return 20, items, 0
	}
	if at < 0 {
		return 0, nil, 2
	}
	it := l.Items[at]
	if w.Kind == 2 {
		return 22, []api.Item{it}, 0
	}
	if it.Alias == w.Alias {
		return 0, nil, 0
	}
	it.Alias = w.Alias
	return 21, []api.Item{it}, 0
}

// addsOf answers what is added, the places of which are tried one by one.
func addsOf(l api.List, w api.Wish) []api.Item {
	there := func(group, id int) bool {
		return slices.ContainsFunc(l.Items, func(it api.Item) bool { return it.Group == group && it.Id == id })
	}
	name := w.Group
	if name == "" {
		name = "Buddies"
	}
	for _, g := range l.Items {
		if g.Type != 1 || g.Name != name {
			continue
		}
		id := 1
		for there(g.Group, id) {
			id++
		}
		return []api.Item{{Name: w.Name, Group: g.Group, Id: id, Alias: w.Alias, Await: w.Await}}
	}
	group := 1
	for there(group, 0) {
		group++
	}
	return []api.Item{{Name: name, Group: group, Type: 1}, {Name: w.Name, Group: group, Id: 1, Alias: w.Alias, Await: w.Await}}
}

func nextOf(s api.Ssi) (api.Ssi, []api.Note, []api.Deal) {
	if s.Busy || len(s.Wishes) == 0 {
		return s, nil, nil
	}
	w := s.Wishes[0]
	s.Wishes = s.Wishes[1:]
	kind, items, code := comesToOf(s.List, w)
	if kind == 0 {
		s, said, deals := nextOf(s)
		return s, said, append([]api.Deal{{Wish: w, Code: code}}, deals...)
	}
	s.Busy, s.Kind, s.Items, s.Wish = true, kind, items, w
	return s, []api.Note{{Kind: 23}, {Kind: kind, Items: items}, {Kind: 24}}, nil
}

func ackOf(s api.Ssi, codes []int) (api.Ssi, []api.Note, []api.Deal) {
	if !s.Busy || len(codes) != len(s.Items) {
		return s, nil, nil
	}
	after := api.Ssi{List: s.List, Wishes: s.Wishes}
	last, worst := 0, 0
	for i, code := range codes {
		last = code
		if code != 0 {
			worst = code
			continue
		}
		if l, c := list.Apply(after.List, s.Kind, s.Items[i]); c == 0 {
			after.List = l
		}
	}
	w := s.Wish
	if last == 14 && s.Kind == 20 && !w.Await {
		w.Await = true
		after.Wishes = slices.Concat([]api.Wish{w}, s.Wishes)
		return after, []api.Note{{Kind: 26, Name: w.Name}}, nil
	}
	return after, nil, []api.Deal{{Wish: w, Code: worst}}
}

func loadOf(s api.Ssi, l api.List) api.Ssi {
	after := api.Ssi{List: l, Wishes: s.Wishes}
	if s.Busy {
		after.Wishes = slices.Concat([]api.Wish{s.Wish}, s.Wishes)
	}
	return after
}

func markOf(s api.Ssi, name string, await bool) api.Ssi {
	if at := atOf(s.List, name); at >= 0 {
		s.List.Items = slices.Clone(s.List.Items)
		s.List.Items[at].Await = await
	}
	return s
}

// answer is what one of the calls answers.
type answer struct {
	s     api.Ssi
	said  []api.Note
	deals []api.Deal
}

func answerOf(s api.Ssi, said []api.Note, deals []api.Deal) answer {
	return answer{s, said, deals}
}

// alike holds answers against each other, where nil and empty lists are the same.
func alike(a, b answer) bool {
	return reflect.DeepEqual(evened(a), evened(b))
}

// evened is a copy that shares nothing with a, without lists that are empty but not nil.
func evened(a answer) answer {
	even := func(items []api.Item) []api.Item { return append([]api.Item(nil), items...) }
	a.s.List.Items, a.s.Items = even(a.s.List.Items), even(a.s.Items)
	a.s.Wishes, a.said, a.deals = append([]api.Wish(nil), a.s.Wishes...), append([]api.Note(nil), a.said...), append([]api.Deal(nil), a.deals...)
	for i, n := range a.said {
		a.said[i].Items, a.said[i].Codes = even(n.Items), append([]int(nil), n.Codes...)
	}
	return a
}

// numbers are ends of numbers of all widths, and those around them.
func numbers() []int {
	l := []int{math.MinInt, math.MinInt + 1, math.MaxInt, math.MaxInt - 1, 3, 5, 6, 10, 12, 14, 20, 21, 22}
	for bit := range 63 {
		for off := -1; off <= 1; off++ {
			l = append(l, 1<<bit+off, -1<<bit+off)
		}
	}
	return l
}

// names are such as buddies may have and such as they may not.
func names() []string {
	return []string{
		"", " ", "joe", "Joe", "J o E", "joe b", "JoeB", "bob", "ann", "12345", "123456789", "1234", "1234567890", "01234", "jo", "joe ", " joe", "joe@mac.com", "joe@", "a@b@c",
		"jo\u00e9", "joe\x00", "joe\xff", "\xff", "\t", "Friends", "joe_b", strings.Repeat("x", 16), strings.Repeat("x", 17), strings.Repeat("x", 1<<16),
	}
}

// titles are such as an alias and a group may have and such as they may not.
func titles() []string {
	l := []string{"", " ", "a", "Buddies", "buddies", "Friends", "\t", "\r\n", "<&>", "\u00e9", "\ufffd", "\U0001f600", "\x00", "\x1f", "\xff", "\ufffe", "\uffff", "a\xc3", "\xed\xa0\x80"}
	for _, n := range []int{62, 63, 64, 65, 66, 1000, 1 << 16} {
		l = append(l, strings.Repeat("x", n), strings.Repeat("x", n-2)+"\u00e9", strings.Repeat("x", n-1)+"\u00e9", strings.Repeat("x", n-1)+"\xff")
	}
	return l
}

func pick(r *rand.Rand, l ...string) string {
	return l[r.Intn(len(l))]
}

// randomWish is one that may be, of few names.
func randomWish(r *rand.Rand) api.Wish {
	w := api.Wish{Kind: 1 + r.Intn(3), Name: pick(r, "joe", "J oe", "JOE", "bob", "Bob", "ann", "eve", "12345", "mia", "tim")}
	if w.Kind != 2 {
		w.Alias = pick(r, "", "", "A", "B\u00e9")
	}
	if w.Kind == 1 {
		w.Group, w.Await = pick(r, "", "", "Buddies", "g", "G", "joe", "Work"), r.Intn(4) == 0
	}
	return w
}

// randomList is a list that may be.
func randomList(r *rand.Rand) api.List {
	l := api.List{Time: r.Int63n(1 << 32)}
	for range r.Intn(30) {
		it := api.Item{Group: 1 + r.Intn(4), Id: 1 + r.Intn(4), Name: randomWish(r).Name, Alias: pick(r, "", "A", "B\u00e9"), Await: r.Intn(3) == 0}
		if r.Intn(3) == 0 {
			it = api.Item{Group: 1 + r.Intn(4), Type: 1, Name: pick(r, "Buddies", "g", "G", "joe", "Work")}
		}
		l, _ = list.Apply(l, 20+r.Intn(2), it)
	}
	return l
}

// randomSsi is one of which some wishes wait, and a change of which may be under way.
func randomSsi(r *rand.Rand) api.Ssi {
	s := api.Ssi{List: randomList(r)}
	for range r.Intn(6) {
		s.Wishes = append(s.Wishes, randomWish(r))
	}
	if r.Intn(2) == 0 {
		s, _, _ = nextOf(s)
	}
	return s
}

// randomCodes are some, mostly such as a server has.
func randomCodes(r *rand.Rand, size int) []int {
	codes := make([]int, size)
	for i := range codes {
		if r.Intn(2) == 0 {
			codes[i] = []int{2, 3, 10, 12, 14, 14, 14, -1, 1 << 32}[r.Intn(9)]
		}
	}
	return codes
}

// full is a list of that many items, which may be: ten buddies a group.
func full(size int) api.List {
	l := api.List{Time: 7}
	for i := range size {
		group, id := 1+i/11, i%11
		it := api.Item{Group: group, Id: id, Name: fmt.Sprintf("b%d.%d.", group, id)}
		if id == 0 {
			it = api.Item{Group: group, Type: 1, Name: fmt.Sprint("g", group)}
		}
		l.Items = append(l.Items, it)
	}
	return l
}
