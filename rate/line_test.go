package rate

import (
	"math/rand"
	"slices"
	"strings"
	"testing"
	"unsafe"

	"wharf/api"
)

func lookAtPush(t *testing.T, l api.Line, n api.Note) (api.Line, api.Errno) {
	t.Helper()
	kept := copied(l)
	got, err := Push(l, n)
	want, wantErr := pushOf(kept, n)
	if err != wantErr || !alike(got, want) {
		t.Fatalf("Push(%s, %s): %s %v, not %s %v", tell(kept), tell(n), tell(got), err, tell(want), wantErr)
	}
	if !alike(l, kept) {
		t.Fatalf("Push(%s, %s) left %s", tell(kept), tell(n), tell(l))
	}
	return got, err
}

func lookAtPop(t *testing.T, l api.Line, now int64) (api.Line, []api.Note) {
	t.Helper()
	kept := copied(l)
	got, gone := Pop(l, now)
	want, wantGone := popOf(kept, now)
	if !alike(got, want) || !alikeNotes(gone, wantGone) {
		t.Fatalf("Pop(%s, %d): %s %s, not %s %s", tell(kept), now, tell(got), tell(gone), tell(want), tell(wantGone))
	}
	if !alike(l, kept) {
		t.Fatalf("Pop(%s, %d) left %s", tell(kept), now, tell(l))
	}
	return got, gone
}

// codesOf tells notes apart that are numbered.
func codesOf(notes []api.Note) []int {
	l := []int{}
	for _, n := range notes {
		l = append(l, n.Code)
	}
	return l
}

// P19.3: notes go behind all, but those of one's status and idle time go in place of an older one.
func TestPush(t *testing.T) {
	for what, c := range map[string]struct {
		there []api.Note
		kind  int
		want  []int
	}{
		"the first":              {nil, 15, []int{99}},
		"the first status":       {nil, 11, []int{99}},
		"behind":                 {numbered(15, 15), 15, []int{0, 1, 99}},
		"no other kind is alike": {numbered(15, 26, 20, 28), 26, []int{0, 1, 2, 3, 99}},
		"a status ahead":         {numbered(11, 15), 11, []int{99, 1}},
		"a status between":       {numbered(15, 11, 15), 11, []int{0, 99, 2}},
		"a status at the end":    {numbered(15, 15, 11), 11, []int{0, 1, 99}},
		"a status, alone":        {numbered(11), 11, []int{99}},
		"an idle time":           {numbered(15, 12, 11), 12, []int{0, 99, 2}},
		"status behind idle":     {numbered(12, 15), 11, []int{0, 1, 99}},
		"idle behind status":     {numbered(15, 11), 12, []int{0, 1, 99}},
		"status, both there":     {numbered(12, 11, 15), 11, []int{0, 99, 2}},
		"the one that is ahead":  {numbered(15, 11, 15, 11), 11, []int{0, 99, 2, 3}},
		"kinds beside":           {numbered(10, 13, 15), 10, []int{0, 1, 2, 99}},
	} {
		l := api.Line{Rate: usual(), Notes: c.there}
		got, err := lookAtPush(t, l, api.Note{Kind: c.kind, Code: 99})
		if err != api.OK || !slices.Equal(codesOf(got.Notes), c.want) || got.Rate != usual() {
			t.Error(what, tell(got), err)
		}
	}
}

// P19.3: of all Kinds, also such as there are not, just two have one note in a line.
func TestPushOfAllKinds(t *testing.T) {
	kinds := []int{-11, -1, 30, 31, 256 + 11, 1<<16 + 12, 1<<32 + 11, 1<<32 + 12}
	for k := range 30 {
		kinds = append(kinds, k)
	}
	for _, k := range kinds {
		for _, old := range kinds {
			l := api.Line{Notes: []api.Note{{Kind: 15}, full(old), {Kind: 15}}}
			n := full(k)
			n.Text, n.Code, n.Status, n.Idle = "new", 99, 98, 97
			got, err := lookAtPush(t, l, n)
			inPlace := k == old && (k == api.LgStatus || k == api.LgIdle)
			if err != api.OK || (len(got.Notes) == 3) != inPlace || inPlace && !alikeNotes(got.Notes[1:2], []api.Note{n}) || !inPlace && !alikeNotes(got.Notes[3:], []api.Note{n}) {
				t.Fatal(k, old, tell(got), err)
			}
		}
	}
}

// P19.3: as many as may wait, and more. The line stays as it is, then; but in its place a newer one goes nevertheless.
func TestPushOfMoreThanMayWait(t *testing.T) {
	for size := range 20 {
		for _, k := range []int{api.LgSend, api.LgStatus, api.LgIdle, api.LgAskAuth} {
			for at := -1; at < size; at++ {
				l := api.Line{Rate: usual(), Notes: numbered(slices.Repeat([]int{api.LgSend}, size)...)}
				if at >= 0 {
					l.Notes[at].Kind = k
				}
				got, err := lookAtPush(t, l, api.Note{Kind: k, Code: 99})
				inPlace := at >= 0 && (k == api.LgStatus || k == api.LgIdle)
				switch {
				case inPlace && (err != api.OK || len(got.Notes) != size || got.Notes[at].Code != 99):
					t.Fatal(size, k, at, tell(got), err)
				case !inPlace && size >= 16 && (err != api.ErrFull || !alike(got, l)):
					t.Fatal(size, k, at, tell(got), err)
				case !inPlace && size < 16 && (err != api.OK || len(got.Notes) != size+1 || got.Notes[size].Code != 99):
					t.Fatal(size, k, at, tell(got), err)
				}
			}
		}
	}
}

// P19.3: a line of a rate that may not be takes notes as any other, and keeps its rate.
func TestPushKeepsTheRate(t *testing.T) {
	r := rand.New(rand.NewSource(197))
	for range 2000 {
		l := api.Line{Rate: anyRate(r)}
		if got, err := lookAtPush(t, l, randomNote(r)); err != api.OK || got.Rate != l.Rate {
			t.Fatal(tell(got), err)
		}
	}
}

func TestPushAtRandom(t *testing.T) {
	r := rand.New(rand.NewSource(198))
	for range 20000 {
		lookAtPush(t, randomLine(r), randomNote(r))
	}
}

// P19.4: as many as may be sent at once, by hand.
func TestPop(t *testing.T) {
	for _, c := range []struct {
		level, last, now int64
		size, gone       int
		left, at         int64
	}{
		{200, 0, 0, 0, 0, 200, 0}, {200, 0, 500, 0, 0, 200, 0}, // there is none: nothing is sent
		{200, 0, 0, 1, 1, 180, 0}, {200, 0, 0, 2, 2, 162, 0}, {200, 0, 0, 16, 6, 105, 0}, {200, 5, 0, 16, 6, 105, 5},
		{111, 0, 0, 3, 0, 111, 0}, {111, 0, 1, 3, 1, 100, 1}, {111, 0, 20, 3, 1, 101, 20}, {112, 0, 0, 3, 1, 100, 0},
		{100, 0, 99, 5, 0, 100, 0}, {100, 0, 100, 5, 1, 100, 100}, {100, 0, 220, 5, 2, 100, 220}, {100, 0, 219, 5, 1, 111, 219},
		{300, 0, 0, 16, 10, 102, 0}, {0, 0, 1 << 52, 16, 11, 102, 1 << 52}, {80, 9, 0, 4, 0, 80, 9},
	} {
		r := usual()
		r.Level, r.Last = c.level, c.last
		l, gone := lookAtPop(t, api.Line{Rate: r, Notes: numbered(slices.Repeat([]int{15}, c.size)...)}, c.now)
		r.Level, r.Last = c.left, c.at
		if len(gone) != c.gone || len(l.Notes) != c.size-c.gone || l.Rate != r {
			t.Errorf("%+v: %s %d", c, tell(l), len(gone))
		}
		for i, code := range append(codesOf(gone), codesOf(l.Notes)...) {
			if code != i {
				t.Errorf("%+v: %s %s", c, tell(gone), tell(l))
			}
		}
	}
}

// P19.4: what may not be sent any more stays, whatever its Kind is; all of a note goes along.
func TestPopOfAllKinds(t *testing.T) {
	for k := -2; k < 33; k++ {
		r := usual()
		r.Level = 112
		l, gone := lookAtPop(t, api.Line{Rate: r, Notes: []api.Note{full(k), full(k + 1)}}, 0)
		if !alikeNotes(gone, []api.Note{full(k)}) || !alikeNotes(l.Notes, []api.Note{full(k + 1)}) {
			t.Fatal(k, tell(gone), tell(l))
		}
	}
}

func TestPopAtRandom(t *testing.T) {
	r := rand.New(rand.NewSource(199))
	some, part := 0, 0
	for range 20000 {
		l := randomLine(r)
		if r.Intn(2) == 0 {
			l.Rate = usual()
			l.Rate.Level, l.Rate.Last = r.Int63n(301), r.Int63n(2000)
		}
		after, gone := lookAtPop(t, l, randomNow(r, l.Rate.Last))
		if len(gone) > 0 {
			some++
			if len(after.Notes) > 0 {
				part++
			}
		}
	}
	if some < 5000 || part < 2000 {
		t.Fatal(some, part)
	}
}

// P19.5: what a line lets out never comes too early: the level, reckoned anew from when each one left, stays.
func TestLinesNeverBelow(t *testing.T) {
	r := rand.New(rand.NewSource(200))
	for range 300 {
		l := api.Line{Rate: randomRate(r)}
		l.Rate.Level = l.Rate.Limit + upTo(r, l.Rate.Max-l.Rate.Limit)
		anew, now := l.Rate, l.Rate.Last
		for range 60 {
			l, _ = Push(l, randomNote(r))
			if r.Intn(3) == 0 {
				now = min(end, now+upTo(r, 2*l.Rate.Limit))
				var gone []api.Note
				l, gone = lookAtPop(t, l, now)
				for range gone {
					anew = sendOf(anew, now)
					if anew.Level < anew.Limit {
						t.Fatal(tell(anew), now)
					}
				}
			}
			if anew != l.Rate {
				t.Fatal(tell(anew), tell(l.Rate))
			}
		}
	}
}

// life is a line with all that came into it, but what a newer one came in place of, and how many of these have left.
type life struct {
	line api.Line
	came []api.Note
	left int
}

// push hands n in, and tells whether it was taken.
func (f *life) push(t *testing.T, n api.Note) bool {
	t.Helper()
	before := len(f.line.Notes)
	line, err := Push(f.line, n)
	f.line = line
	switch {
	case err != api.OK:
		if before < 16 {
			t.Fatal("refused", before)
		}
		return false
	case len(line.Notes) > before:
		f.came = append(f.came, n)
	default:
		at := f.left + slices.Index(codesOf(line.Notes), n.Code)
		if f.came[at].Kind != n.Kind || n.Kind == api.LgSend {
			t.Fatal(tell(n), tell(line))
		}
		f.came[at] = n
	}
	return true
}

// pop looks at what leaves: it is what came next.
func (f *life) pop(t *testing.T, now int64) int {
	t.Helper()
	line, gone := Pop(f.line, now)
	if !alikeNotes(gone, f.came[f.left:f.left+len(gone)]) {
		t.Fatal(tell(gone), tell(f.came[f.left:]))
	}
	f.line = line
	f.left += len(gone)
	if !alikeNotes(line.Notes, f.came[f.left:]) {
		t.Fatal(tell(line), tell(f.came[f.left:]))
	}
	return len(gone)
}

// P19.6: notes leave in the order in which they came, but those in whose place a newer one is; none is lost.
func TestInOrder(t *testing.T) {
	r := rand.New(rand.NewSource(201))
	refused := 0
	for range 400 {
		f, now := life{line: api.Line{Rate: usual()}}, int64(0)
		for code := range 100 {
			if !f.push(t, api.Note{Kind: []int{api.LgSend, api.LgSend, api.LgStatus, api.LgIdle}[r.Intn(4)], Code: code}) {
				refused++
			}
			if r.Intn(3) == 0 {
				now += r.Int63n(300)
			}
			if r.Intn(4) == 0 {
				f.pop(t, now)
			}
		}
		for len(f.line.Notes) > 0 {
			now += Wait(f.line.Rate, now)
			if f.pop(t, now) == 0 {
				t.Fatal(tell(f.line), now)
			}
		}
		if f.left != len(f.came) {
			t.Fatal(f.left, len(f.came))
		}
	}
	if refused < 400 {
		t.Fatal(refused)
	}
}

// P19.6: messages alone leave in their order, each once, whatever else goes by.
func TestMessagesInOrder(t *testing.T) {
	r := rand.New(rand.NewSource(202))
	for range 300 {
		l, now := api.Line{Rate: usual()}, int64(0)
		var in, out []int
		for code := range 120 {
			n := api.Note{Kind: []int{api.LgSend, api.LgStatus, api.LgIdle}[r.Intn(3)], Code: code}
			var err api.Errno
			if l, err = Push(l, n); err == api.OK && n.Kind == api.LgSend {
				in = append(in, code)
			}
			now += r.Int63n(120)
			var gone []api.Note
			if l, gone = Pop(l, now); len(gone) > 0 {
				out = append(out, sends(gone)...)
			}
		}
		if out = append(out, sends(l.Notes)...); !slices.Equal(in, out) {
			t.Fatal(in, out)
		}
	}
}

func sends(notes []api.Note) []int {
	var l []int
	for _, n := range notes {
		if n.Kind == api.LgSend {
			l = append(l, n.Code)
		}
	}
	return l
}

// Twenty messages at once: sixteen wait, four are refused, ten go at once, and the others later.
func TestTwentyAtOnce(t *testing.T) {
	l, refused := api.Line{Rate: usual()}, 0
	for code := range 20 {
		var err api.Errno
		if l, err = Push(l, api.Note{Kind: api.LgSend, Code: code}); err == api.ErrFull {
			refused++
		}
	}
	l, gone := Pop(l, 0)
	if refused != 4 || !slices.Equal(codesOf(gone), []int{0, 1, 2, 3, 4, 5, 6, 7, 8, 9}) {
		t.Fatal(refused, tell(gone))
	}
	now := int64(0)
	for code := 10; code < 16; code++ {
		if l, gone = Pop(l, now+Wait(l.Rate, now)-1); len(gone) != 0 {
			t.Fatal(code, tell(gone))
		}
		now += Wait(l.Rate, now)
		if l, gone = Pop(l, now); !slices.Equal(codesOf(gone), []int{code}) {
			t.Fatal(code, tell(gone))
		}
	}
	if len(l.Notes) != 0 || now != 82+5*100 {
		t.Fatal(tell(l), now)
	}
}

// lies tells whether part is in the memory of s.
func lies(part, s string) bool {
	if part == "" || s == "" {
		return false
	}
	from, at := uintptr(unsafe.Pointer(unsafe.StringData(s))), uintptr(unsafe.Pointer(unsafe.StringData(part)))
	return at >= from && at < from+uintptr(len(s))
}

func texts(notes []api.Note) []string {
	var l []string
	for _, n := range notes {
		l = append(l, n.Name, n.Text, n.Data)
		for _, it := range n.Items {
			l = append(l, it.Name, it.Alias)
		}
	}
	return l
}

func lookApart(t *testing.T, one, other []string) {
	t.Helper()
	for _, a := range one {
		for _, b := range other {
			if lies(a, b) {
				t.Fatalf("%q lies in what is elsewhere", a)
			}
		}
	}
}

// fresh is a note of which every field says something, in memory of its own.
func fresh(kind int) api.Note {
	n := full(kind)
	n.Name, n.Text, n.Data = strings.Clone(n.Name), strings.Clone(n.Text), strings.Clone(n.Data)
	for i, it := range n.Items {
		n.Items[i].Name, n.Items[i].Alias = strings.Clone(it.Name), strings.Clone(it.Alias)
	}
	return n
}

// spoil writes over notes, over what lies in them, and behind them.
func spoil(notes []api.Note) {
	for i, n := range notes {
		for at := range n.Items {
			n.Items[at] = api.Item{Name: "other"}
		}
		for at := range n.Codes {
			n.Codes[at] = -1
		}
		_, _ = append(n.Items, api.Item{Name: "more"}), append(n.Codes, -2)
		notes[i] = api.Note{Kind: -1}
	}
	_ = append(notes, api.Note{Kind: -2})
}

// roomy is notes with room behind them, and whether that room is as it was.
func roomy(notes []api.Note) ([]api.Note, func() bool) {
	all := append(slices.Clone(notes), api.Note{Text: "spare"}, api.Note{Text: "spare"})
	return all[:len(notes)], func() bool {
		return alikeNotes(all[len(notes):], []api.Note{{Text: "spare"}, {Text: "spare"}})
	}
}

// Answers share nothing with what was handed in, nor with each other; lists that are handed in stay as they are, and
// their spare room does.
func TestApart(t *testing.T) {
	r := usual()
	r.Level = 130 // two may go
	for _, size := range []int{0, 1, 2, 3, 5, 16, 17} {
		for _, k := range []int{api.LgSend, api.LgStatus} {
			var notes []api.Note
			for range size {
				notes = append(notes, fresh(k))
			}
			notes, spared := roomy(notes)
			l, n := api.Line{Rate: r, Notes: notes}, fresh(k)
			kept := copied(l)
			for what, do := range map[string]func() (api.Line, []api.Note){
				"Push": func() (api.Line, []api.Note) { l, _ := Push(l, n); return l, nil },
				"Pop":  func() (api.Line, []api.Note) { return Pop(l, 0) },
				"none": func() (api.Line, []api.Note) {
					return Pop(api.Line{Rate: api.Rate{Window: 1, Limit: 1, Max: 1}, Notes: notes}, 0)
				},
			} {
				one, gone := do()
				two, goneToo := do()
				want, wantGone := copied(two), copied(api.Line{Notes: goneToo}).Notes
				given := append(texts(l.Notes), texts([]api.Note{n})...)
				lookApart(t, append(texts(one.Notes), texts(gone)...), given)
				lookApart(t, append(texts(one.Notes), texts(gone)...), append(texts(two.Notes), texts(goneToo)...))
				lookApart(t, texts(one.Notes), texts(gone))
				spoil(one.Notes)
				if what == "Pop" && !alikeNotes(gone, wantGone) {
					t.Fatal(what, size, k, tell(gone))
				}
				spoil(gone)
				if !alike(l, kept) || !spared() || !alike(two, want) || !alikeNotes(goneToo, wantGone) || !alikeNotes([]api.Note{n}, []api.Note{full(k)}) {
					t.Fatal(what, size, k, tell(l), tell(two))
				}
			}
		}
	}
}
