package rate

import (
	"math"
	"math/rand"
	"slices"
	"sync"
	"testing"

	"wharf/api"
)

const end = int64(api.MaxTime)

// lookAtRate holds all that is reckoned of a rate at a time against the promises' words.
func lookAtRate(t *testing.T, r api.Rate, now int64) {
	t.Helper()
	if got, want := Peek(r, now), peekOf(r, now); got != want {
		t.Fatalf("Peek(%s, %d): %d, not %d", tell(r), now, got, want)
	}
	if got, want := May(r, now), mayOf(r, now); got != want {
		t.Fatalf("May(%s, %d): %v, not %v", tell(r), now, got, want)
	}
	if got, want := Send(r, now), sendOf(r, now); got != want {
		t.Fatalf("Send(%s, %d): %s, not %s", tell(r), now, tell(got), tell(want))
	}
	if got, want := Wait(r, now), halved(r, now); got != want {
		t.Fatalf("Wait(%s, %d): %d, not %d", tell(r), now, got, want)
	}
}

// P19.1: rates that may be, and the ends of what may be.
func TestCheckOfGoodRates(t *testing.T) {
	for _, r := range []api.Rate{
		usual(), {Window: 1}, {Window: 1000}, {Window: 1, Last: 1 << 52}, {Window: 2, Max: 1<<32 - 1}, {Window: 2, Max: 1<<32 - 1, Level: 1<<32 - 1},
		{Window: 3, Drop: 5, Limit: 5, Alert: 5, Clear: 5, Max: 5, Level: 5}, {Window: 3, Drop: 5, Limit: 5, Alert: 5, Clear: 5, Max: 5}, {Window: 3, Drop: 1, Limit: 2, Alert: 3, Clear: 4, Max: 5, Level: 1},
		{Window: 1000, Drop: 1<<32 - 1, Limit: 1<<32 - 1, Alert: 1<<32 - 1, Clear: 1<<32 - 1, Max: 1<<32 - 1, Level: 1<<32 - 1, Last: 1 << 52},
	} {
		if err := Check(r); err != api.OK || checkOf(r) != api.OK {
			t.Error(tell(r), err)
		}
	}
}

// P19.1: rates that may not be, each for one reason.
func TestCheckOfBadRates(t *testing.T) {
	for what, spoil := range map[string]func(r *api.Rate){
		"no window":            func(r *api.Rate) { r.Window = 0 },
		"a window below 0":     func(r *api.Rate) { r.Window = -1 },
		"too great a window":   func(r *api.Rate) { r.Window = 1001 },
		"the greatest window":  func(r *api.Rate) { r.Window = math.MaxInt64 },
		"a window of 32 bits":  func(r *api.Rate) { r.Window = 1<<32 + 10 },
		"drop below 0":         func(r *api.Rate) { r.Drop = -1 },
		"drop past limit":      func(r *api.Rate) { r.Drop = 101 },
		"limit below drop":     func(r *api.Rate) { r.Limit = 79 },
		"limit past alert":     func(r *api.Rate) { r.Limit = 121 },
		"alert below limit":    func(r *api.Rate) { r.Alert = 99 },
		"alert past clear":     func(r *api.Rate) { r.Alert = 151 },
		"clear below alert":    func(r *api.Rate) { r.Clear = 119 },
		"clear past max":       func(r *api.Rate) { r.Clear = 301 },
		"max below clear":      func(r *api.Rate) { r.Max, r.Level = 149, 149 },
		"max past MaxLevel":    func(r *api.Rate) { r.Max = 1 << 32 },
		"the greatest max":     func(r *api.Rate) { r.Max = math.MaxInt64 },
		"all bounds too great": func(r *api.Rate) { r.Drop, r.Limit, r.Alert, r.Clear, r.Max = 1<<33, 1<<33, 1<<33, 1<<33, 1<<33 },
		"level below 0":        func(r *api.Rate) { r.Level = -1 },
		"the least level":      func(r *api.Rate) { r.Level = math.MinInt64 },
		"level past max":       func(r *api.Rate) { r.Level = 301 },
		"last below 0":         func(r *api.Rate) { r.Last = -1 },
		"last past MaxTime":    func(r *api.Rate) { r.Last = 1<<52 + 1 },
		"the greatest last":    func(r *api.Rate) { r.Last = math.MaxInt64 },
		"nothing":              func(r *api.Rate) { *r = api.Rate{} },
	} {
		r := usual()
		spoil(&r)
		if err := Check(r); err != api.ErrRate || checkOf(r) != api.ErrRate {
			t.Error(what, tell(r), err)
		}
	}
}

// P19.1: every order of small bounds, levels in them and beside them.
func TestCheckOfSmallRates(t *testing.T) {
	small := func(n int) int64 { return int64(n) - 1 }
	for i := range 5 * 5 * 5 * 5 * 5 * 5 {
		r := api.Rate{Window: 1, Drop: small(i % 5), Limit: small(i / 5 % 5), Alert: small(i / 25 % 5), Clear: small(i / 125 % 5), Max: small(i / 625 % 5), Level: small(i / 3125)}
		if got, want := Check(r), checkOf(r); got != want {
			t.Fatalf("Check(%s): %v, not %v", tell(r), got, want)
		}
	}
}

// P19.1: each field at the ends of numbers, and anything in all of them.
func TestCheckOfAnyRates(t *testing.T) {
	look := func(r api.Rate) {
		if got, want := Check(r), checkOf(r); got != want {
			t.Fatalf("Check(%s): %v, not %v", tell(r), got, want)
		}
	}
	for _, n := range numbers() {
		for _, r := range []api.Rate{usual(), {Window: 1000, Clear: 1 << 31, Max: 1<<32 - 1, Last: 7}} {
			for _, f := range []func(r *api.Rate) *int64{
				func(r *api.Rate) *int64 { return &r.Window }, func(r *api.Rate) *int64 { return &r.Clear }, func(r *api.Rate) *int64 { return &r.Alert }, func(r *api.Rate) *int64 { return &r.Limit },
				func(r *api.Rate) *int64 { return &r.Drop }, func(r *api.Rate) *int64 { return &r.Max }, func(r *api.Rate) *int64 { return &r.Level }, func(r *api.Rate) *int64 { return &r.Last },
			} {
				spoiled := r
				*f(&spoiled) = n
				look(spoiled)
			}
		}
	}
	r := rand.New(rand.NewSource(191))
	for range 20000 {
		look(anyRate(r))
		if m := randomRate(r); Check(m) != api.OK {
			t.Fatal(tell(m))
		}
	}
}

// P19.2: levels that were reckoned by hand.
func TestPeek(t *testing.T) {
	most := int64(1<<32 - 1)
	for _, c := range []struct{ window, max, level, last, now, want int64 }{
		{10, 300, 200, 0, 0, 180}, {10, 300, 200, 0, 9, 180}, {10, 300, 200, 0, 10, 181}, {10, 300, 200, 0, 1000, 280},
		{10, 300, 201, 0, 0, 180}, {10, 300, 201, 0, 1, 181}, {10, 300, 209, 0, 0, 188}, {10, 300, 0, 0, 0, 0}, {10, 300, 1, 0, 0, 0},
		{10, 300, 300, 0, 299, 299}, {10, 300, 300, 0, 300, 300}, {10, 300, 300, 0, 301, 300}, {10, 300, 300, 0, 310, 300}, {10, 300, 300, 0, 1 << 52, 300}, // no higher than Max
		{10, 300, 200, 500, 500, 180}, {10, 300, 200, 500, 499, 180}, {10, 300, 200, 500, 0, 180}, {10, 300, 200, 1 << 52, 0, 180}, {10, 300, 200, 500, 510, 181}, // not below 0
		{1, 300, 200, 0, 0, 0}, {1, 300, 200, 0, 7, 7}, {1, 300, 0, 0, 299, 299}, {1, 300, 300, 0, 301, 300}, // a window of one
		{2, 300, 200, 0, 0, 100}, {2, 300, 200, 0, 1, 100}, {2, 300, 200, 0, 2, 101}, {2, 300, 3, 0, 0, 1},
		{1000, most, most, 0, 0, 4290672327}, {1000, most, most, 0, most - 1, most - 1}, {1000, most, most, 0, most, most}, {1000, most, most, 0, 1 << 52, most},
		{1, most, 0, 0, most - 1, most - 1}, {1, most, 0, 0, most, most}, {1, most, 0, 0, most + 1, most}, {1, most, 0, 5, 1 << 52, most},
		{1000, most, 0, 0, most, 4294967}, {1000, most, 0, 0, 4294967999, 4294967}, {1000, most, 0, 0, 1 << 52, 4294967}, // no more than MaxLevel counts
		{3, most, 0, 0, most, 1431655765}, {3, most, 0, 0, most + 1, 1431655765}, {3, most, 0, 0, most + 3, 1431655765},
		{10, 0, 0, 0, 1000, 0},
	} {
		r := api.Rate{Window: c.window, Max: c.max, Level: c.level, Last: c.last}
		if got := Peek(r, c.now); got != c.want || Check(r) != api.OK {
			t.Errorf("Peek(%s, %d): %d, not %d", tell(r), c.now, got, c.want)
		}
		lookAtRate(t, r, c.now)
	}
}

// P19.2: just at Limit something may be sent, not below.
func TestMay(t *testing.T) {
	for _, c := range []struct {
		level, limit, now int64
		want              bool
	}{
		{200, 180, 0, true}, {200, 181, 0, false}, {200, 181, 9, false}, {200, 181, 10, true}, {200, 179, 0, true}, {111, 100, 0, false}, {112, 100, 0, true}, {111, 100, 1, true},
		{0, 0, 0, true}, {0, 1, 9, false}, {0, 1, 10, true}, {300, 300, 299, false}, {300, 300, 300, true}, {300, 300, 1 << 52, true},
	} {
		r := api.Rate{Window: 10, Limit: c.limit, Alert: c.limit, Clear: c.limit, Max: 300, Level: c.level}
		if got := May(r, c.now); got != c.want {
			t.Errorf("May(%s, %d): %v", tell(r), c.now, got)
		}
		lookAtRate(t, r, c.now)
	}
}

// P19.2: what is left behind something that is sent, also where it may not be.
func TestSend(t *testing.T) {
	r := usual()
	r.Last = 1000
	for _, c := range []struct{ now, level, last int64 }{
		{1000, 270, 1000}, {1001, 270, 1001}, {1010, 271, 1010}, {1299, 299, 1299}, {1300, 300, 1300}, {5000, 300, 5000}, {999, 270, 1000}, {0, 270, 1000}, {1 << 52, 300, 1 << 52},
	} {
		want := r
		want.Level, want.Last = c.level, c.last
		if got := Send(r, c.now); got != want {
			t.Errorf("Send at %d: %s", c.now, tell(got))
		}
	}
	r.Level = 0
	if got := Send(r, 1005); got.Level != 0 || got.Last != 1005 || May(r, 1005) {
		t.Error(tell(got))
	}
	r.Level = 81
	if got := Send(r, 1000); got.Level != 72 || Check(got) != api.OK { // below Drop
		t.Error(tell(got))
	}
}

// P19.2: how long it lasts, that was reckoned by hand.
func TestWait(t *testing.T) {
	most := int64(1<<32 - 1)
	for _, c := range []struct{ window, limit, max, level, last, now, want int64 }{
		{10, 100, 300, 100, 0, 0, 100}, {10, 100, 300, 100, 0, 99, 1}, {10, 100, 300, 100, 0, 100, 0}, {10, 100, 300, 100, 0, 101, 0}, {10, 100, 300, 100, 0, 5000, 0},
		{10, 100, 300, 111, 0, 0, 1}, {10, 100, 300, 112, 0, 0, 0}, {10, 100, 300, 0, 0, 0, 1000}, {10, 100, 300, 300, 0, 0, 0}, {10, 0, 300, 0, 0, 0, 0},
		{10, 300, 300, 300, 0, 0, 300}, {10, 300, 300, 0, 0, 0, 3000}, {10, 300, 300, 0, 0, 1, 2999}, // just at Max
		{10, 100, 300, 100, 500, 500, 100}, {10, 100, 300, 100, 500, 499, 101}, {10, 100, 300, 100, 500, 0, 600}, {10, 100, 300, 200, 500, 0, 0}, // now ahead of Last
		{1, 100, 300, 300, 0, 0, 100}, {1, 100, 300, 0, 7, 0, 107}, {2, 100, 300, 100, 0, 0, 100},
		{1, most, most, 0, 0, 0, most}, {1, most, most, most, 9, 9, most}, {1000, 4294967, most, 0, 0, 0, 4294967000}, {1000, 4294967, most, 0, 0, 295, 4294966705},
		{1000, 4294968, most, 0, 0, 0, 1 << 52}, {1000, 4294968, most, 0, 0, 1 << 51, 1 << 52}, {1000, most, most, 0, 0, 0, 1 << 52}, {1000, most, most, most, 0, 0, most}, // more than counts
		{2, 1 << 31, most, 0, 0, 0, 1 << 52}, {2, 1<<31 - 1, most, 0, 0, 0, 1<<32 - 2}, {2, 1 << 31, most, 1, 0, 0, most}, {2, 1 << 31, most, 1, 0, 1 << 40, 0}, // by one
		{10, 100, 300, 100, 1<<52 - 100, 0, 1 << 52}, {10, 100, 300, 100, 1<<52 - 100, 1<<52 - 100, 100}, {10, 100, 300, 100, 1<<52 - 100, 1 << 52, 0}, // just at the end of time
		{10, 100, 300, 100, 1<<52 - 99, 1<<52 - 99, 1 << 52}, {10, 100, 300, 100, 1<<52 - 99, 1 << 52, 1 << 52}, {10, 100, 300, 100, 1<<52 - 99, 0, 1 << 52}, {10, 100, 300, 100, 1 << 52, 1 << 52, 1 << 52}, // past it
		{10, 100, 300, 100, 1<<52 - 101, 0, 1<<52 - 1}, {10, 100, 300, 112, 1 << 52, 1 << 52, 0}, {10, 100, 300, 112, 1 << 52, 0, 0}, {10, 100, 300, 111, 1<<52 - 1, 1 << 52, 0},
	} {
		r := api.Rate{Window: c.window, Limit: c.limit, Alert: c.limit, Clear: c.limit, Max: c.max, Level: c.level, Last: c.last}
		if got := Wait(r, c.now); got != c.want || Check(r) != api.OK {
			t.Errorf("Wait(%s, %d): %d, not %d", tell(r), c.now, got, c.want)
		}
		lookAtRate(t, r, c.now)
	}
}

// P19.2: all small rates, at all times around, where what is waited for is tried one by one.
func TestSmallRates(t *testing.T) {
	for window := int64(1); window <= 5; window++ {
		for most := range int64(6) {
			for limit := range most + 1 {
				for level := range most + 1 {
					r := api.Rate{Window: window, Limit: limit, Alert: limit, Clear: limit, Max: most, Level: level, Last: 3}
					for now := range int64(40) {
						lookAtRate(t, r, now)
						if want, ok := scanned(r, now, 40); !ok || Wait(r, now) != want {
							t.Fatalf("Wait(%s, %d): %d, not %d", tell(r), now, Wait(r, now), want)
						}
					}
				}
			}
		}
	}
}

// P19.2: at the end of time what is waited for is tried one by one, too.
func TestTheEndOfTime(t *testing.T) {
	for level := range int64(13) {
		for back := range int64(15) {
			r := api.Rate{Window: 4, Limit: 3, Alert: 3, Clear: 3, Max: 12, Level: level, Last: end - back}
			for ago := range int64(18) {
				lookAtRate(t, r, end-ago)
				if want, ok := scanned(r, end-ago, 40); !ok || Wait(r, end-ago) != want {
					t.Fatalf("Wait(%s, %d): %d, not %d", tell(r), end-ago, Wait(r, end-ago), want)
				}
			}
		}
	}
}

// P19.2: rates and times at random, and what is waited for is the least: the time ahead of it is too early.
func TestRatesAtRandom(t *testing.T) {
	r := rand.New(rand.NewSource(192))
	waited, never := 0, 0
	for range 60000 {
		m := randomRate(r)
		now := randomNow(r, m.Last)
		lookAtRate(t, m, now)
		w := Wait(m, now)
		switch {
		case w < 0 || w > end:
			t.Fatalf("Wait(%s, %d): %d", tell(m), now, w)
		case w == end && !May(m, end):
			never++
		case !May(m, now+w), w > 0 && May(m, now+w-1):
			t.Fatalf("Wait(%s, %d): %d", tell(m), now, w)
		case w > 0:
			waited++
		}
		if s := Send(m, now); Check(s) != api.OK {
			t.Fatalf("Send(%s, %d): %s", tell(m), now, tell(s))
		}
	}
	if waited < 5000 || never < 5000 {
		t.Fatal(waited, never)
	}
}

// P19.2: what may be sent may be sent later, too.
func TestLaterToo(t *testing.T) {
	r := rand.New(rand.NewSource(193))
	for range 20000 {
		m := randomRate(r)
		a, b := randomNow(r, m.Last), randomNow(r, m.Last)
		if Peek(m, min(a, b)) > Peek(m, max(a, b)) {
			t.Fatal(tell(m), a, b)
		}
	}
}

// P19.5: from a level of Limit at least none below it comes, as long as nothing is sent that may not be, whenever it is
// tried, also by a clock that is put back.
func TestNeverBelow(t *testing.T) {
	r := rand.New(rand.NewSource(195))
	sent, refused := 0, 0
	for range 3000 {
		m := randomRate(r)
		m.Level = m.Limit + upTo(r, m.Max-m.Limit)
		now := m.Last
		for range 40 {
			switch r.Intn(4) {
			case 0:
				now = min(end, now+upTo(r, m.Limit))
			case 1:
				now = min(end, now+r.Int63n(m.Window+1))
			case 2:
				now = min(end, now+r.Int63n(2000))
			}
			if r.Intn(20) == 0 {
				now = randomNow(r, m.Last)
			}
			if !May(m, now) {
				refused++
				continue
			}
			before := m
			m = Send(m, now)
			sent++
			if m.Level < m.Limit || Check(m) != api.OK {
				t.Fatalf("%s at %d: %s", tell(before), now, tell(m))
			}
		}
	}
	if sent < 10000 || refused < 10000 {
		t.Fatal(sent, refused)
	}
}

// P19.5: what is sent as soon as it may be comes as often as the bounds let it, not oftener.
func TestAsOftenAsMayBe(t *testing.T) {
	m, now := usual(), int64(0)
	var times []int64
	for range 15 {
		now += Wait(m, now)
		m = Send(m, now)
		times = append(times, now)
		if m.Level < 100 {
			t.Fatal(tell(m), now)
		}
	}
	// The levels are 270, 243, 218, 196, 176, 158, 142, 127, 114, 102 at once; then 1000 less nine times the level lacks.
	if want := []int64{0, 0, 0, 0, 0, 0, 0, 0, 0, 0, 82, 182, 282, 382, 482}; !slices.Equal(times, want) {
		t.Fatal(times)
	}
}

// Every call ends, and none panics, also of rates that may not be, at times that there are not.
func TestAnyArguments(t *testing.T) {
	r := rand.New(rand.NewSource(196))
	l := numbers()
	for range 60000 {
		m, now := anyRate(r), l[r.Intn(len(l))]
		if r.Intn(4) == 0 {
			m.Window = r.Int63n(3) - 1
		}
		Peek(m, now)
		May(m, now)
		Send(m, now)
		Wait(m, now)
		line, gone := Pop(api.Line{Rate: m, Notes: numbered(15, 11, 15)}, now)
		if got := append(gone, line.Notes...); !alikeNotes(got, numbered(15, 11, 15)) {
			t.Fatal(tell(m), now, tell(got))
		}
	}
	for _, m := range []api.Rate{{}, {Window: 0, Max: 300, Limit: 100, Level: 200}, {Window: -1, Level: math.MinInt64}, {Window: -1, Level: math.MinInt64 / 2, Last: math.MinInt64}} {
		for _, now := range l {
			Peek(m, now)
			May(m, now)
			Send(m, now)
			Wait(m, now)
		}
	}
	many := api.Line{Rate: api.Rate{Window: 1}, Notes: make([]api.Note, 100000)}
	if line, gone := Pop(many, 0); len(line.Notes) != 0 || len(gone) != 100000 {
		t.Fatal(len(line.Notes), len(gone))
	}
}

// All are pure functions: the same every time, also at the same time.
func TestPure(t *testing.T) {
	var all sync.WaitGroup
	shared := api.Line{Rate: usual(), Notes: append(numbered(15, 11, 12, 15), full(20))}
	for seed := range int64(8) {
		all.Go(func() {
			r := rand.New(rand.NewSource(seed % 4))
			for range 1000 {
				m, n := randomRate(r), randomNote(r)
				now := randomNow(r, m.Last)
				if Peek(m, now) != peekOf(m, now) || Send(m, now) != sendOf(m, now) || Wait(m, now) != halved(m, now) {
					t.Error(tell(m), now)
				}
				pushed, err := Push(shared, n)
				want, wantErr := pushOf(shared, n)
				line, gone := Pop(shared, now)
				wantLine, wantGone := popOf(shared, now)
				if err != wantErr || !alike(pushed, want) || !alike(line, wantLine) || !alikeNotes(gone, wantGone) {
					t.Error(tell(n), now)
				}
			}
		})
	}
	all.Wait()
}

// The chapter's example.
func TestExamples(t *testing.T) {
	r := api.Rate{Window: 10, Clear: 100, Alert: 100, Limit: 100, Max: 300, Level: 200}
	if got := Peek(r, 0); got != 180 {
		t.Error(got)
	}
	r.Level = 100
	if got := Wait(r, 0); got != 100 {
		t.Error(got)
	}
}
