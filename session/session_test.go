package session

import (
	"math"
	"math/rand"
	"slices"
	"strings"
	"sync"
	"testing"
	"unsafe"

	"wharf/api"
	"wharf/legacy"
)

// at is a session in that phase, of which every field says something.
func at(phase int) api.Session {
	return api.Session{Phase: phase, Name: "Joe B", Password: "secret", Status: 32, Time: 1 << 31, Count: 40, Heard: 11, Said: 12, Code: 13}
}

func lookAtStart(t *testing.T, name, password string, status int, time int64, count int, may bool) {
	t.Helper()
	s, said, err := Start(name, password, status, time, count)
	wantS, wantSaid, wantErr := startOf(name, password, status, time, count, may)
	if s != wantS || !alike(said, wantSaid) || err != wantErr {
		t.Fatalf("Start(%q, %q, %d, %d, %d): %s %s %v, not %s %s %v", name, password, status, time, count, tell(s), tell(said), err, tell(wantS), tell(wantSaid), wantErr)
	}
}

func lookAtTake(t *testing.T, s api.Session, n api.Note) (api.Session, api.Said) {
	t.Helper()
	got, said := Take(s, n)
	want, wantSaid := takeOf(s, n)
	if got != want || !alike(said, wantSaid) {
		t.Fatalf("Take(%s, %s): %s %s, not %s %s", tell(s), tell(n), tell(got), tell(said), tell(want), tell(wantSaid))
	}
	lookAtOrder(t, s, got, said)
	return got, said
}

func lookAtTick(t *testing.T, s api.Session) (api.Session, api.Said) {
	t.Helper()
	got, said := Tick(s)
	want, wantSaid := tickOf(s)
	if got != want || !alike(said, wantSaid) {
		t.Fatalf("Tick(%s): %s %s, not %s %s", tell(s), tell(got), tell(said), tell(want), tell(wantSaid))
	}
	lookAtOrder(t, s, got, said)
	return got, said
}

func lookAtStop(t *testing.T, s api.Session, code int) (api.Session, api.Said) {
	t.Helper()
	got, said := Stop(s, code)
	want, wantSaid := stopOf(s, code)
	if got != want || !alike(said, wantSaid) {
		t.Fatalf("Stop(%s, %d): %s %s, not %s %s", tell(s), code, tell(got), tell(said), tell(want), tell(wantSaid))
	}
	lookAtOrder(t, s, got, said)
	return got, said
}

func lookAtSent(t *testing.T, s api.Session) api.Session {
	t.Helper()
	got := Sent(s)
	if want := sentOf(s); got != want {
		t.Fatalf("Sent(%s): %s, not %s", tell(s), tell(got), tell(want))
	}
	return got
}

// lookAtOrder asks of a step what P15.7 says of all.
func lookAtOrder(t *testing.T, from, to api.Session, said api.Said) {
	t.Helper()
	if to.Phase < from.Phase {
		t.Fatalf("from %s back to %s", tell(from), tell(to))
	}
	if !isOn(from) && (to != from || len(said.Notes) != 0 || len(said.Up) != 0 || said.Fresh) {
		t.Fatalf("%s is not under way, but says %s", tell(from), tell(said))
	}
	for _, n := range said.Up {
		if to.Phase != 6 && from.Phase != 5 && n.Kind != 18 && n.Kind != 19 {
			t.Fatalf("from %s to %s: up %s", tell(from), tell(to), tell(n))
		}
	}
	if len(said.Notes) != 0 && to.Said != 0 {
		t.Fatalf("from %s to %s: said %s", tell(from), tell(to), tell(said))
	}
	for _, n := range said.Notes {
		if from.Password != "" && strings.Contains(n.Name+"\x00"+n.Text+"\x00"+n.Data, from.Password) && len(from.Password) > 3 {
			t.Fatalf("the password is said: %s", tell(n))
		}
	}
}

// P15.1: what may be, and the ends of it.
func TestStart(t *testing.T) {
	for _, name := range []string{"joe", "Joe B", "Joe@Mac.com", "12345", "123456789", "a234567890123456"} {
		lookAtStart(t, name, "p", 0, 0, 0, true)
	}
	for _, name := range []string{"", " ", "jo", "j o", "joe ", " joe", "joe@", "1234", "1234567890", "01234", "1joe", "jo\u00e9", "joe\x00", "joe\xff", "a2345678901234567", strings.Repeat("a", 1<<20)} {
		lookAtStart(t, name, "p", 0, 0, 0, false)
	}
	for n := range 40 {
		lookAtStart(t, "joe", strings.Repeat("p", n), 1, 2, 3, n >= 1 && n <= 16)
	}
	for _, password := range []string{" ", "\t\r\n", "\u00e9", strings.Repeat("\u00e9", 8), "\U0010ffff", strings.Repeat("p", 14) + "\u00e9", strings.Repeat("\U0001f600", 4)} {
		lookAtStart(t, "joe", password, 1, 2, 3, true)
	}
	for _, password := range []string{"\x00", "p\x00", "\x1f", "\xff", "p\xff", "\xc3", "\ufffe", "\uffff", "\xed\xa0\x80", strings.Repeat("\u00e9", 9), strings.Repeat("p", 15) + "\u00e9", strings.Repeat("p", 15) + "\xff", strings.Repeat("p", 16) + "\xff", strings.Repeat("p", 1<<20)} {
		lookAtStart(t, "joe", password, 1, 2, 3, false)
	}
	for _, x := range numbers() {
		lookAtStart(t, "Joe B", "secret", int(x), 7, 2, x >= 0 && x <= 65535)
		lookAtStart(t, "Joe B", "secret", 1, x, 2, x >= 0 && x < 1<<32)
		lookAtStart(t, "Joe B", "secret", 1, 7, int(x), x >= 0 && x <= 65535)
	}
	lookAtStart(t, "jo", "", -1, -1, -1, false)
}

// P15.1: written out.
func TestStartWrittenOut(t *testing.T) {
	s, said, err := Start("Joe B", "p", 16, 7, 2)
	if err != api.OK || s != (api.Session{Phase: api.SsAuth, Name: "Joe B", Password: "p", Status: 16, Time: 7, Count: 2}) {
		t.Fatal(tell(s), err)
	}
	if !alike(said, api.Said{Notes: []api.Note{{Kind: api.LgHello}, {Kind: api.LgAskKey, Name: "Joe B"}}, Fresh: true}) {
		t.Fatal(tell(said))
	}
}

// P15.2: every Kind in every phase; names that are the same and others, with a Code and without.
func TestTake(t *testing.T) {
	for _, phase := range phases() {
		for _, kind := range someKinds() {
			lookAtTake(t, at(phase), api.Note{Kind: kind})
			lookAtTake(t, at(phase), full(kind))
			for _, name := range []string{"Joe B", "joeb", "J o e B", "JOEB", " j", "joe", "Joe C", "", "joeb@", "12345", "joe\u00e9"} {
				for _, code := range []int{0, 1, -1, 5, 65535, 65536, 200, math.MinInt, math.MaxInt} {
					for _, data := range []string{"", "k", strings.Repeat("d", 300)} {
						lookAtTake(t, at(phase), api.Note{Kind: kind, Name: name, Code: code, Data: data})
					}
				}
			}
		}
	}
}

// P15.2: the phases in their order, written out; each resets what was heard, and what is said resets what was said.
func TestTakeWrittenOut(t *testing.T) {
	salted := saltedOf("12345678", "secret")
	list := api.Note{Kind: api.LgList, Items: []api.Item{{Name: "bob", Group: 1, Id: 2}}, Time: 9}
	for _, c := range []struct {
		phase int
		note  api.Note
		to    int
		said  api.Said
	}{
		{api.SsAuth, api.Note{Kind: api.LgKey, Data: "12345678"}, api.SsLogin, api.Said{Notes: []api.Note{{Kind: api.LgLogin, Name: "Joe B", Data: salted}}}},
		{api.SsLogin, api.Note{Kind: api.LgLet, Name: "JOEb", Data: "c\x00"}, api.SsBoot, api.Said{Notes: []api.Note{{Kind: api.LgCookie, Data: "c\x00"}}, Fresh: true}},
		{api.SsBoot, api.Note{Kind: api.LgHost}, api.SsList, api.Said{Notes: []api.Note{{Kind: api.LgAskList, Time: 1 << 31, Code: 40}}}},
		{api.SsList, list, api.SsReady, api.Said{Notes: []api.Note{{Kind: api.LgReady}, {Kind: api.LgStatus, Status: 32}}, Up: []api.Note{list}}},
		{api.SsList, api.Note{Kind: api.LgSame, Time: 3, Code: 4}, api.SsReady, api.Said{Notes: []api.Note{{Kind: api.LgReady}, {Kind: api.LgStatus, Status: 32}}, Up: []api.Note{{Kind: api.LgSame, Time: 3, Code: 4}}}},
	} {
		got, said := lookAtTake(t, at(c.phase), c.note)
		want := at(c.to)
		want.Heard, want.Said = 0, 0
		if got != want || !alike(said, c.said) {
			t.Fatal(c.phase, tell(c.note), tell(got), tell(said))
		}
	}
	for _, kind := range []int{api.LgOnline, api.LgOffline, api.LgText, api.LgList, api.LgSame, api.LgAck, api.LgWants, api.LgGrants} {
		got, said := lookAtTake(t, at(api.SsReady), full(kind))
		want := at(api.SsReady)
		want.Heard = 0
		if got != want || !alike(said, api.Said{Up: []api.Note{full(kind)}}) {
			t.Fatal(kind, tell(got), tell(said))
		}
	}
}

// P15.2: an end, in each phase that is under way: as the server says, or because it does not let one in.
func TestTakeAnEnd(t *testing.T) {
	for _, phase := range []int{api.SsAuth, api.SsLogin, api.SsBoot, api.SsList, api.SsReady} {
		for _, code := range numbers() {
			bye := api.Note{Kind: api.LgBye, Code: int(code)}
			got, said := lookAtTake(t, at(phase), bye)
			want := at(api.SsEnd)
			want.Heard, want.Code = 0, int(code)
			if got != want || !alike(said, api.Said{Up: []api.Note{bye}}) {
				t.Fatal(phase, code, tell(got), tell(said))
			}
		}
	}
	for _, code := range numbers() {
		got, said := lookAtTake(t, at(api.SsLogin), api.Note{Kind: api.LgLet, Name: "joeb", Code: int(code), Data: "c"})
		if code == 0 {
			continue
		}
		want := at(api.SsEnd)
		want.Heard, want.Code = 0, int(code)
		if got != want || !alike(said, api.Said{Up: []api.Note{{Kind: api.LgBye, Code: int(code)}}}) {
			t.Fatal(code, tell(got), tell(said))
		}
	}
}

// P15.2: whose name is another one is not let in, nor kept out; what does nothing was heard.
func TestTakeNothing(t *testing.T) {
	for _, n := range []api.Note{{Kind: api.LgLet, Name: "joe", Data: "c"}, {Kind: api.LgLet, Name: "bob", Code: 5}, {Kind: api.LgLet, Data: "c"}, {Kind: api.LgKey, Data: "k"}, {Kind: api.LgAlive}, {Kind: 0}, {Kind: 77}} {
		got, said := lookAtTake(t, at(api.SsLogin), n)
		want := at(api.SsLogin)
		want.Heard = 0
		if got != want || !alike(said, api.Said{}) {
			t.Fatal(tell(n), tell(got), tell(said))
		}
	}
}

// P15.3: every Heard and Said, in every phase.
func TestTick(t *testing.T) {
	ends := []int{math.MinInt, math.MinInt + 1, -1000, 1000, 1<<31 - 1, 1 << 31, math.MaxInt - 1, math.MaxInt}
	for x := -3; x < 130; x++ {
		ends = append(ends, x)
	}
	for _, phase := range phases() {
		for _, heard := range ends {
			for _, said := range ends {
				s := at(phase)
				s.Heard, s.Said = heard, said
				lookAtTick(t, s)
			}
		}
	}
}

// P15.3: written out, at both ends of what is long.
func TestTickWrittenOut(t *testing.T) {
	bye := api.Said{Notes: []api.Note{{Kind: api.LgBye}}, Up: []api.Note{{Kind: api.LgBye, Code: api.ByeSilence}}}
	alive := api.Said{Notes: []api.Note{{Kind: api.LgAlive}}}
	for _, c := range []struct {
		phase, heard, said       int
		to, toHeard, toSaid, why int
		what                     api.Said
	}{
		{api.SsReady, 88, 28, api.SsReady, 89, 29, 13, api.Said{}},
		{api.SsReady, 88, 29, api.SsReady, 89, 0, 13, alive},
		{api.SsReady, 0, 57, api.SsReady, 1, 0, 13, alive},
		{api.SsReady, 89, 28, api.SsEnd, 90, 0, 200, bye},
		{api.SsReady, 89, 29, api.SsEnd, 90, 0, 200, bye},
		{api.SsReady, 200, 0, api.SsEnd, 201, 0, 200, bye},
		{api.SsAuth, 88, 88, api.SsAuth, 89, 89, 13, api.Said{}},
		{api.SsAuth, 89, 89, api.SsEnd, 90, 0, 200, bye},
		{api.SsLogin, 0, 29, api.SsLogin, 1, 30, 13, api.Said{}},
		{api.SsBoot, 0, 29, api.SsBoot, 1, 30, 13, api.Said{}},
		{api.SsList, 0, 29, api.SsList, 1, 30, 13, api.Said{}},
		{api.SsList, 89, 0, api.SsEnd, 90, 0, 200, bye},
		{api.SsEnd, 89, 29, api.SsEnd, 89, 29, 13, api.Said{}},
		{api.SsOff, 89, 29, api.SsOff, 89, 29, 13, api.Said{}},
	} {
		s := at(c.phase)
		s.Heard, s.Said = c.heard, c.said
		got, what := lookAtTick(t, s)
		want := at(c.to)
		want.Heard, want.Said, want.Code = c.toHeard, c.toSaid, c.why
		if got != want || !alike(what, c.what) {
			t.Fatal(c.phase, c.heard, c.said, tell(got), tell(what))
		}
	}
}

// P15.4: in every phase, any code.
func TestStop(t *testing.T) {
	for _, phase := range phases() {
		for _, code := range numbers() {
			got, said := lookAtStop(t, at(phase), int(code))
			if phase < 1 || phase > 5 {
				continue
			}
			want := at(api.SsEnd)
			want.Said, want.Code = 0, int(code)
			if got != want || !alike(said, api.Said{Notes: []api.Note{{Kind: api.LgBye}}}) {
				t.Fatal(phase, code, tell(got), tell(said))
			}
		}
	}
}

// P15.5: in every phase.
func TestSent(t *testing.T) {
	for _, phase := range phases() {
		got, want := lookAtSent(t, at(phase)), at(phase)
		if phase >= 1 && phase <= 5 {
			want.Said = 0
		}
		if got != want {
			t.Fatal(phase, tell(got))
		}
	}
}

// P15.5: while something else is sent, no sign of life is.
func TestSentPutsOff(t *testing.T) {
	s := at(api.SsReady)
	s.Heard, s.Said = 0, 0
	for i := range 85 {
		var said api.Said
		if s, said = lookAtTick(t, s); len(said.Notes) != 0 {
			t.Fatal(i, tell(said))
		}
		if i%29 == 28 {
			s = lookAtSent(t, s)
		}
	}
}

// P15.6: six codes, and no other.
func TestLasting(t *testing.T) {
	lasting := kinds(1, 4, 5, 7, 8, 17)
	codes := []int64{200, 201}
	for code := int64(-300); code < 70000; code++ {
		codes = append(codes, code)
	}
	for _, code := range append(codes, numbers()...) {
		if got := Lasting(int(code)); got != lasting[int(code)] {
			t.Fatal(code, got)
		}
	}
}

// doSomething takes a step from s, and tells whether it was heard, and whether it may be over by it.
func doSomething(t *testing.T, r *rand.Rand, s api.Session, noteOf func(r *rand.Rand) api.Note) (to api.Session, said api.Said, heard, may bool) {
	t.Helper()
	switch r.Intn(12) {
	case 0, 1, 2, 3, 4:
		n := noteOf(r)
		to, said = lookAtTake(t, s, n)
		return to, said, true, n.Kind == api.LgBye || n.Kind == api.LgLet
	case 5:
		return lookAtSent(t, s), api.Said{}, false, false
	case 6:
		if r.Intn(20) == 0 {
			to, said = lookAtStop(t, s, r.Intn(9))
			return to, said, false, true
		}
	}
	to, said = lookAtTick(t, s)
	return to, said, false, false
}

// onward is a note that is likely to lead from one phase to the next.
func onward(r *rand.Rand) api.Note {
	n := randomNote(r)
	if r.Intn(3) != 0 {
		n.Kind, n.Name, n.Code = []int{6, 8, 9, 18, 19, 16}[r.Intn(6)], "joe", 0
	} else if n.Kind == 3 && r.Intn(4) != 0 {
		n.Kind = 4
	}
	return n
}

// P15.7: whole lives: phases rise, one by one or to the end; behind it nothing is said, and nothing changes.
func TestInOrder(t *testing.T) {
	r := rand.New(rand.NewSource(15))
	reached := map[int]int{}
	for range 1500 {
		s, said, err := Start("joe", "secret", r.Intn(300), r.Int63n(1<<32), r.Intn(100))
		if err != api.OK || !said.Fresh {
			t.Fatal(tell(s), err)
		}
		for range 120 {
			to, said, _, _ := doSomething(t, r, s, onward)
			if to.Phase != s.Phase && to.Phase != s.Phase+1 && to.Phase != api.SsEnd {
				t.Fatal(tell(s), tell(to))
			}
			if said.Fresh && to.Phase != api.SsBoot {
				t.Fatal(tell(s), tell(to), tell(said))
			}
			s = to
			reached[s.Phase]++
		}
	}
	for phase := 1; phase <= 6; phase++ {
		if reached[phase] < 1000 {
			t.Fatal(reached)
		}
	}
}

// P15.7: of any session that is handed in, too.
func TestInOrderFromAnywhere(t *testing.T) {
	r := rand.New(rand.NewSource(157))
	for range 40000 {
		doSomething(t, r, randomSession(r), randomNote)
	}
}

// P15.8: whoever hears something ahead of each 90 ticks is not over, but by what ends it; whoever does not, is.
func TestHeard(t *testing.T) {
	r := rand.New(rand.NewSource(158))
	for range 3000 {
		s, _, _ := Start("joe", "secret", 0, 0, 0)
		silent, room := 0, 1+r.Intn(89)
		for range 400 {
			ticks := r.Intn(room + 1)
			for i := range ticks {
				if s, _ = lookAtTick(t, s); s.Phase == api.SsEnd {
					t.Fatal(silent, i, tell(s))
				}
			}
			n := onward(r)
			if n.Kind == api.LgBye || n.Kind == api.LgLet && n.Code != 0 {
				n = api.Note{Kind: api.LgAlive}
			}
			if s, _ = lookAtTake(t, s, n); s.Phase == api.SsEnd {
				t.Fatal(tell(s), tell(n))
			}
			if r.Intn(20) == 0 {
				break
			}
		}
		for i := range 90 {
			if s, _ = lookAtTick(t, s); (s.Phase == api.SsEnd) != (i == 89) {
				t.Fatal(i, tell(s))
			}
		}
		if s.Code != api.ByeSilence {
			t.Fatal(tell(s))
		}
	}
}

// What is said may go over a legacy connection, where what was heard may.
func TestSaidMayBe(t *testing.T) {
	s, said, _ := Start("Joe B", "secret", 65535, 1<<32-1, 65535)
	for _, n := range []api.Note{{Kind: api.LgKey, Data: "k"}, {Kind: api.LgLet, Name: "joeb", Data: "c"}, {Kind: api.LgHost}, {Kind: api.LgSame}, {Kind: api.LgAlive}} {
		for _, m := range said.Notes {
			if legacy.Check(m) != api.OK {
				t.Fatal(tell(m))
			}
		}
		s, said = lookAtTake(t, s, n)
	}
	if s.Phase != api.SsReady {
		t.Fatal(tell(s))
	}
}

// lies tells whether part is in the memory of s.
func lies(part, s string) bool {
	if part == "" || s == "" {
		return false
	}
	from, at := uintptr(unsafe.Pointer(unsafe.StringData(s))), uintptr(unsafe.Pointer(unsafe.StringData(part)))
	return at >= from && at < from+uintptr(len(s))
}

// Answers share nothing with what was handed in, nor with each other; lists that are handed in stay as they are.
func TestApart(t *testing.T) {
	for _, phase := range []int{api.SsAuth, api.SsLogin, api.SsBoot, api.SsList, api.SsReady} {
		for _, kind := range someKinds() {
			n := full(kind)
			if kind == api.LgLet {
				n.Code = 0
			}
			whole := n
			n.Items, n.Codes = slices.Grow(slices.Clone(n.Items), 3), slices.Grow(slices.Clone(n.Codes), 3)
			_, one := Take(at(phase), n)
			_, two := Take(at(phase), n)
			for _, m := range slices.Concat(one.Notes, one.Up) {
				parts := []string{m.Name, m.Text, m.Data}
				for _, it := range m.Items {
					parts = append(parts, it.Name, it.Alias)
				}
				for _, p := range parts {
					for _, s := range []string{n.Name, n.Text, n.Data, n.Items[0].Name, n.Items[0].Alias, n.Items[1].Name} {
						if lies(p, s) {
							t.Fatalf("%s lies in what was handed in", tell(m))
						}
					}
				}
			}
			spoil(one)
			if !alike(api.Said{Up: []api.Note{n}}, api.Said{Up: []api.Note{whole}}) {
				t.Fatal(tell(n))
			}
			if slices.ContainsFunc(n.Items[2:5], func(it api.Item) bool { return it != (api.Item{}) }) || n.Codes[:3][2] != 0 {
				t.Fatal(tell(n.Items[:5]), n.Codes[:3])
			}
			if _, want := takeOf(at(phase), whole); !alike(two, want) {
				t.Fatal(tell(two))
			}
		}
	}
}

// spoil writes over an answer, and behind its lists.
func spoil(said api.Said) {
	for _, l := range [][]api.Note{said.Notes, said.Up} {
		for i := range l {
			for j := range l[i].Items {
				l[i].Items[j] = api.Item{Name: "other"}
			}
			for j := range l[i].Codes {
				l[i].Codes[j] = -1
			}
			_, _ = append(l[i].Items, api.Item{Name: "more"}), append(l[i].Codes, 9)
			l[i] = api.Note{Kind: -1}
		}
		_ = append(l, api.Note{Kind: -2})
	}
}

// All are pure functions: the same every time, also at the same time.
func TestPure(t *testing.T) {
	var all sync.WaitGroup
	for seed := range int64(8) {
		all.Go(func() {
			r := rand.New(rand.NewSource(seed % 4))
			for range 1500 {
				s, n := randomSession(r), randomNote(r)
				took, said := Take(s, n)
				want, wantSaid := takeOf(s, n)
				ticked, ticks := Tick(s)
				wantTicked, wantTicks := tickOf(s)
				if took != want || !alike(said, wantSaid) || ticked != wantTicked || !alike(ticks, wantTicks) || Sent(s) != sentOf(s) {
					t.Error(tell(s), tell(n), tell(took), tell(ticked))
				}
			}
		})
	}
	all.Wait()
}

// The chapter's example.
func TestExamples(t *testing.T) {
	s, _, _ := Start("Joe", "p", 0, 0, 0)
	for _, n := range []api.Note{{Kind: api.LgKey, Data: "k"}, {Kind: api.LgLet, Name: "joe", Data: "c"}, {Kind: api.LgHost}, {Kind: api.LgSame}} {
		s, _ = Take(s, n)
	}
	if s.Phase != api.SsReady {
		t.Fatal(tell(s))
	}
}
