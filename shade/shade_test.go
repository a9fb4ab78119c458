package shade

import (
	"math"
	"strings"
	"sync"
	"testing"

	"wharf/api"
)

func lookAtShow(t *testing.T, status int) {
	t.Helper()
	show, ok := Show(status)
	if want, wantOk := showOf(status); show != want || ok != wantOk {
		t.Fatalf("Show(%d): %q, %t, not %q, %t", status, show, ok, want, wantOk)
	}
}

// P16.1: each bit alone, and every two together, of which the one that is named first holds.
func TestShow(t *testing.T) {
	for status, want := range map[int]string{
		0: "", api.LsAway: "away", api.LsBusy: "dnd", api.LsGone: "xa", api.LsOccupied: "dnd", api.LsTalkative: "chat",
		api.LsAway | api.LsBusy: "dnd", api.LsAway | api.LsGone: "xa", api.LsAway | api.LsOccupied: "dnd", api.LsAway | api.LsTalkative: "away",
		api.LsBusy | api.LsGone: "dnd", api.LsBusy | api.LsOccupied: "dnd", api.LsBusy | api.LsTalkative: "dnd",
		api.LsGone | api.LsOccupied: "dnd", api.LsGone | api.LsTalkative: "xa", api.LsOccupied | api.LsTalkative: "dnd",
		8: "", 64: "", 128: "", 512: "", 1 << 16: "", 1 << 31: "", 8 | api.LsAway: "away", 1<<31 | api.LsTalkative: "chat",
		255: "dnd", 255 - api.LsBusy - api.LsOccupied: "xa", 255 - api.LsBusy - api.LsOccupied - api.LsGone: "away",
	} {
		if show, ok := Show(status); show != want || !ok {
			t.Errorf("Show(%d): %q, %t, not %q", status, show, ok, want)
		}
	}
}

// P16.1: one who is invisible is not there, whatever else is set.
func TestShowOfInvisible(t *testing.T) {
	for status := range 1 << 17 {
		if status&api.LsInvisible != 0 {
			if show, ok := Show(status); show != "" || ok {
				t.Fatalf("Show(%d): %q, %t", status, show, ok)
			}
		}
	}
	if show, ok := Show(math.MaxInt); show != "" || ok {
		t.Errorf("Show of the greatest: %q, %t", show, ok)
	}
}

// P16.1: of a status below 0 nobody is there, also where none of the bits, or others of them, are set.
func TestShowBelowZero(t *testing.T) {
	for _, status := range []int{-1, -2, -256, -257, -512, -1024, -1 << 20, -1<<31 | 1, math.MinInt, math.MinInt | api.LsAway, math.MinInt + 255} {
		if show, ok := Show(status); show != "" || ok {
			t.Errorf("Show(%d): %q, %t", status, show, ok)
		}
	}
}

// P16.1: every status of two bytes, some below 0, and those with bits above.
func TestShowOfAll(t *testing.T) {
	for status := -2048; status < 1<<17; status++ {
		lookAtShow(t, status)
	}
	for low := range 512 {
		for _, high := range []int{1 << 20, 1 << 31, 1 << 32, 1 << 62, math.MaxInt - 511, math.MinInt} {
			lookAtShow(t, high|low)
		}
	}
}

// P16.2: the four shows that mean something, and others, which are only nearly one.
func TestStatus(t *testing.T) {
	for show, want := range map[string]int{
		"away": api.LsAway, "chat": api.LsTalkative, "dnd": api.LsBusy, "xa": api.LsGone,
		"": 0, "online": 0, "x": 0, "invisible": 0, "AWAY": 0, "Away": 0, "Xa": 0, "XA": 0, "DND": 0, "Chat": 0,
		" away": 0, "away ": 0, "aw": 0, "awa": 0, "awayx": 0, "xaxa": 0, "dn": 0, "dndd": 0, "cha": 0, "chat\n": 0,
		"away\x00": 0, "\xff": 0, "\u20ac": 0, "busy": 0, "gone": 0, "occupied": 0, strings.Repeat("xa", 1<<16): 0,
	} {
		if got := Status(show); got != want {
			t.Errorf("Status(%q): %d, not %d", show, got, want)
		}
	}
}

// P16.2: of all texts of up to four small letters just these four mean something.
func TestStatusOfShortTexts(t *testing.T) {
	letters := strings.Split("abcdefghijklmnopqrstuvwxyz", "")
	known := 0
	eachText(letters, 4, func(s string) {
		want := map[string]int{"away": 1, "chat": 32, "dnd": 2, "xa": 4}[s]
		if got := Status(s); got != want {
			t.Fatalf("Status(%q): %d, not %d", s, got, want)
		}
		if want != 0 {
			known++
		}
	})
	if known != 4 {
		t.Fatal(known)
	}
}

// P16.3: all minutes that can be told, and the bounds.
func TestSeconds(t *testing.T) {
	for m := range int64(65536) {
		if got := Seconds(m); got != m*60 {
			t.Fatalf("Seconds(%d): %d", m, got)
		}
	}
	for m, want := range map[int64]int64{
		-1: 0, -2: 0, -60: 0, -65535: 0, math.MinInt64: 0, math.MinInt64 + 1: 0,
		65536: 65535 * 60, 65537: 65535 * 60, 1 << 31: 65535 * 60, 1 << 32: 65535 * 60, math.MaxInt64 / 60: 65535 * 60,
		math.MaxInt64/60 + 1: 65535 * 60, 1 << 62: 65535 * 60, math.MaxInt64: 65535 * 60,
	} {
		if got := Seconds(m); got != want {
			t.Errorf("Seconds(%d): %d, not %d", m, got, want)
		}
	}
}

// P16.3: all seconds of the first day, those around whole minutes, and the bounds.
func TestMinutes(t *testing.T) {
	whole, over := int64(0), 0
	for s := range int64(24 * 60 * 60) {
		if over == 60 {
			whole, over = whole+1, 0
		}
		if got := Minutes(s); got != whole {
			t.Fatalf("Minutes(%d): %d", s, got)
		}
		over++
	}
	for m := int64(1); m <= 65535; m++ {
		if Minutes(m*60-1) != m-1 || Minutes(m*60) != m || Minutes(m*60+59) != m {
			t.Fatalf("around %d minutes", m)
		}
	}
	for s, want := range map[int64]int64{
		-1: 0, -59: 0, -60: 0, -61: 0, -120: 0, -1 << 32: 0, math.MinInt64: 0, math.MinInt64 + 1: 0,
		65535*60 - 1: 65534, 65535 * 60: 65535, 65535*60 + 59: 65535, 65536 * 60: 65535, 65536*60 + 60: 65535,
		1 << 31: 65535, 1 << 32: 65535, 1 << 62: 65535, math.MaxInt64: 65535,
	} {
		if got := Minutes(s); got != want {
			t.Errorf("Minutes(%d): %d, not %d", s, got, want)
		}
	}
}

// P16.6: Status of Show of what Status answers is that.
func TestStatusThereAndBack(t *testing.T) {
	for _, s := range []string{"away", "chat", "dnd", "xa", "", "another"} {
		status := Status(s)
		show, ok := Show(status)
		if !ok || Status(show) != status {
			t.Errorf("%q: %d, back as %q, %t", s, status, show, ok)
		}
		if s != "another" && show != s {
			t.Errorf("%q: back as %q", s, show)
		}
	}
}

// P16.6: Minutes of Seconds are the minutes, as many as can be told.
func TestMinutesThereAndBack(t *testing.T) {
	for m := range int64(65536) {
		if got := Minutes(Seconds(m)); got != m {
			t.Fatalf("%d minutes: back as %d", m, got)
		}
	}
}

// All calls answer the same again, also several at a time: they hang on nothing but their arguments.
func TestPure(t *testing.T) {
	texts := append(bits(), "a<b&\n\xff\u20ac", "<HTML><b>a</b><Br/>b &amp;&nbsp;<c")
	var group sync.WaitGroup
	for range 4 {
		group.Go(func() {
			for status := range 600 {
				show, ok := Show(status)
				if want, wantOk := showOf(status); show != want || ok != wantOk {
					t.Errorf("Show(%d): %q, %t", status, show, ok)
				}
			}
			for _, s := range texts {
				if ToHtml(s, 12) != toHtmlOf(s, 12) || FromHtml(s) != fromHtmlOf(s) || Status(s) != 0 {
					t.Errorf("%q", s)
				}
			}
		})
	}
	group.Wait()
}

// The chapter's example.
func TestExamples(t *testing.T) {
	if show, ok := Show(33); show != "away" || !ok {
		t.Errorf("Show(33): %q, %t", show, ok)
	}
	if got := ToHtml("a<b", 100); got != "a&lt;b" {
		t.Errorf("ToHtml: %q", got)
	}
	if got := FromHtml("<B>a</B><br>b"); got != "a\nb" {
		t.Errorf("FromHtml: %q", got)
	}
}
