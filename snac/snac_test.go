package snac

import (
	"math"
	"math/rand"
	"strings"
	"sync"
	"testing"

	"wharf/api"
)

// The chapter's examples.
func TestExamples(t *testing.T) {
	s := api.Snac{Family: 4, Sub: 7, Flags: 0, Req: 1, Body: "x"}
	b, err := Put(s)
	if b != "\x00\x04\x00\x07\x00\x00\x00\x00\x00\x01\x78" || err != api.OK {
		t.Fatalf("%x %v", b, err)
	}
	if back, err := Parse(b); back != s || err != api.OK {
		t.Fatal(tell(back), err)
	}
}

// P13.1, P13.2: all numbers of two bytes in each field, and those around them.
func TestNumbers(t *testing.T) {
	for _, front := range []api.Snac{{}, {Family: 65535, Sub: 65535, Flags: 65535, Req: 1<<32 - 1, Body: "a"}, {Family: 1, Sub: 0x203, Flags: 0x405, Req: 0x6070809, Body: "\n"}} {
		for field := range 4 {
			for n := int64(-300); n < 1<<16+300; n++ {
				lookAtPut(t, with(front, field, n))
			}
			for _, n := range numbers() {
				lookAtPut(t, with(front, field, n))
			}
		}
	}
}

// P13.1: where each field begins to be wrong.
func TestCheckAtTheEdges(t *testing.T) {
	most := []int64{65535, 65535, 65535, 4294967295}
	for field, m := range most {
		for n, want := range map[int64]api.Errno{
			math.MinInt64: api.ErrArg, -1 << 32: api.ErrArg, -65536: api.ErrArg, -1: api.ErrArg, 0: api.OK, 1: api.OK,
			m - 1: api.OK, m: api.OK, m + 1: api.ErrArg, m + 2: api.ErrArg, 2 * (m + 1): api.ErrArg, 1 << 32: api.ErrArg, 1<<32 + 1: api.ErrArg, math.MaxInt64: api.ErrArg,
		} {
			if err := Check(with(api.Snac{Body: "ab"}, field, n)); err != want {
				t.Fatalf("field %d, %d: %v, not %v", field, n, err, want)
			}
		}
	}
	for size, want := range map[int]api.Errno{0: api.OK, 8181: api.OK, 8182: api.OK, 8183: api.ErrLong, 8192: api.ErrLong, 8193: api.ErrLong, 65536: api.ErrLong} {
		if err := Check(api.Snac{Family: 65535, Req: 1<<32 - 1, Body: strings.Repeat("x", size)}); err != want {
			t.Fatalf("%d bytes: %v, not %v", size, err, want)
		}
	}
}

// P13.1: of both errors ErrArg is told, whichever field is wrong, alone or with others.
func TestWrongTogether(t *testing.T) {
	seen := map[api.Errno]int{}
	some := []int64{-1, 0, 65535, 65536, 1 << 32}
	for _, body := range []string{"", strings.Repeat("x", 8182), strings.Repeat("x", 8183)} {
		for _, family := range some {
			for _, sub := range some {
				for _, flags := range some {
					for _, req := range some {
						_, err := lookAtPut(t, api.Snac{Family: int(family), Sub: int(sub), Flags: int(flags), Req: req, Body: body})
						seen[err]++
					}
				}
			}
		}
	}
	if len(seen) != 3 || seen[api.OK] != 2*2*2*2*3 || seen[api.ErrLong] != 2*2*2*3 {
		t.Fatal(seen)
	}
}

// P13.1, P13.2: Bodies of all lengths that may be, and longer ones.
func TestBodies(t *testing.T) {
	all := strings.Repeat("\xfe\x00*", 2800)
	for size := range all {
		b, err := lookAtPut(t, api.Snac{Family: 0x13, Sub: 6, Flags: 1, Req: 0xfffefdfc, Body: all[:size]})
		if size <= 8182 && len(b) != 10+size || size > 8182 && (b != "" || err != api.ErrLong) {
			t.Fatalf("%d bytes: %d, %v", size, len(b), err)
		}
	}
	for _, body := range bodies() {
		for field := range 4 {
			lookAtPut(t, with(api.Snac{Family: 4, Sub: 6, Body: body}, field, -1))
			lookAtPut(t, with(api.Snac{Family: 4, Sub: 6, Body: body}, field, 9))
		}
	}
}

// P13.2: each number stands in its place, the greatest byte first.
func TestPlaces(t *testing.T) {
	for b, s := range map[string]api.Snac{
		"\x00\x00\x00\x00\x00\x00\x00\x00\x00\x00":     {},
		"\x01\x02\x00\x00\x00\x00\x00\x00\x00\x00":     {Family: 0x102},
		"\x00\x00\x01\x02\x00\x00\x00\x00\x00\x00":     {Sub: 0x102},
		"\x00\x00\x00\x00\x01\x02\x00\x00\x00\x00":     {Flags: 0x102},
		"\x00\x00\x00\x00\x00\x00\x01\x02\x03\x04":     {Req: 0x1020304},
		"\x00\x00\x00\x00\x00\x00\x00\x00\x00\x00\x01": {Body: "\x01"},
		"\xff\xff\xfe\xfe\xfd\xfd\xfc\xfb\xfa\xf9é":    {Family: 0xffff, Sub: 0xfefe, Flags: 0xfdfd, Req: 0xfcfbfaf9, Body: "é"},
	} {
		if got, err := Put(s); got != b || err != api.OK {
			t.Fatalf("Put(%s): %q %v", tell(s), got, err)
		}
		if got, err := Parse(b); got != s || err != api.OK {
			t.Fatalf("Parse(%q): %s %v", b, tell(got), err)
		}
	}
}

// P13.2: every byte at every place of a head, and behind it.
func TestParseEveryByte(t *testing.T) {
	for _, fill := range []string{"\x00", "\x01", "\xff", "*"} {
		b := []byte(strings.Repeat(fill, 12))
		for at := range b {
			for c := range 256 {
				b[at] = byte(c)
				if _, err := lookAtParse(t, string(b)); err != api.OK {
					t.Fatalf("%x: %v", b, err)
				}
			}
			b[at] = fill[0]
		}
	}
}

// P13.2: texts of all lengths; too short and too long ones are none, whatever their bytes are.
func TestParseLengths(t *testing.T) {
	for _, fill := range []string{"\x00", "\x04", "a", "\xff"} {
		all := strings.Repeat(fill, 8400)
		for size := range all {
			want := api.OK
			if size < 10 || size > 8192 {
				want = api.ErrSnac
			}
			if got, err := lookAtParse(t, all[:size]); err != want || err != api.OK && got != (api.Snac{}) {
				t.Fatalf("%d bytes: %s %v", size, tell(got), err)
			}
		}
		for _, size := range []int{16384, 65535, 65536, 65536 + 9, 65536 + 10, 65536 + 8192, 1 << 20, 1<<24 + 10} {
			if got, err := Parse(strings.Repeat(fill, size)); err != api.ErrSnac || got != (api.Snac{}) {
				t.Fatalf("%d bytes: %s %v", size, tell(got), err)
			}
		}
	}
	if got, err := Parse(""); err != api.ErrSnac || got != (api.Snac{}) {
		t.Fatal(tell(got), err)
	}
}

// P13.3: all families of two bytes and those around them, with any sub.
func TestClass(t *testing.T) {
	subs := []int{-1, 0, 1, 2, 4, 6, 7, 8, 0x11, 0x13, 0x1e, 255, 256, 65535, 65536, math.MinInt, math.MaxInt}
	look := func(family, sub int) {
		t.Helper()
		want := 1
		if family == 4 {
			want = 2
		} else if family == 19 {
			want = 3
		}
		if got := Class(family, sub); got != want {
			t.Fatalf("Class(%d, %d): %d, not %d", family, sub, got, want)
		}
	}
	for family := -300; family < 1<<16+300; family++ {
		for _, sub := range subs {
			look(family, sub)
		}
	}
	for _, n := range numbers() {
		for _, m := range []int{-1, 0, 4, 6, 8, 0x13, 65535, math.MinInt, math.MaxInt} {
			look(int(n), m)
			look(m, int(n))
		}
	}
	for sub := -70000; sub < 70000; sub++ {
		look(4, sub)
		look(13, sub)
		look(0x13, sub)
		look(sub, 4)
		look(sub, 0x13)
	}
}

// P13.3: what clients send, by the numbers that other chapters name.
func TestClassOfWhatIsSent(t *testing.T) {
	for at, want := range map[[2]int]int{
		{0x17, 6}: 1, {0x17, 2}: 1, {1, 2}: 1, {1, 0x1e}: 1, {1, 0x11}: 1, {3, 0xb}: 1, {2, 4}: 1, {5, 4}: 1, {13, 8}: 1,
		{4, 6}: 2, {4, 7}: 2, {4, 0x13}: 2,
		{0x13, 5}: 3, {0x13, 8}: 3, {0x13, 9}: 3, {0x13, 0xa}: 3, {0x13, 0x11}: 3, {0x13, 0x12}: 3, {0x13, 0x18}: 3, {0x13, 0x1a}: 3, {0x13, 4}: 3,
	} {
		if got := Class(at[0], at[1]); got != want {
			t.Fatalf("Class(%x, %x): %d, not %d", at[0], at[1], got, want)
		}
	}
}

// P13.4: there and back, of snacs and of bytes; unlike snacs have unlike bytes.
func TestThereAndBack(t *testing.T) {
	r := rand.New(rand.NewSource(13))
	for i := range 20000 {
		size := []int{0, 3, 40, 300, 8182}[i%5]
		s := randomSnac(r, size)
		b, err := Put(s)
		back, e := Parse(b)
		if err != api.OK || e != api.OK || back != s {
			t.Fatalf("Parse of Put(%s): %s %v %v", tell(s), tell(back), err, e)
		}
		b = randomText(r, 10+r.Intn(size+1))
		s, err = Parse(b)
		again, e := Put(s)
		if err != api.OK || e != api.OK || again != b {
			t.Fatalf("Put of Parse(%s): %s %v %v", short(b), short(again), err, e)
		}
	}
	seen := map[string]api.Snac{}
	some := []int64{0, 1, 2, 255, 256, 257, 512, 65535}
	for _, family := range some {
		for _, sub := range some {
			for _, flags := range some {
				for _, req := range append(some, 65536, 1<<24, 1<<32-1) {
					for _, body := range []string{"", "\x00", "\x00\x00", "\x01"} {
						s := api.Snac{Family: int(family), Sub: int(sub), Flags: int(flags), Req: req, Body: body}
						b, _ := lookAtPut(t, s)
						if other, ok := seen[b]; ok {
							t.Fatalf("%s and %s: %s", tell(s), tell(other), short(b))
						}
						seen[b] = s
					}
				}
			}
		}
	}
}

// All are pure functions: the same every time, also at the same time.
func TestPure(t *testing.T) {
	s := api.Snac{Family: 0x13, Sub: 8, Flags: 2, Req: 0xfedcba98, Body: "body"}
	want := "\x00\x13\x00\x08\x00\x02\xfe\xdc\xba\x98body"
	var all sync.WaitGroup
	for seed := range int64(8) {
		all.Go(func() {
			r := rand.New(rand.NewSource(seed))
			for range 500 {
				other := randomSnac(r, 50)
				b, err := Put(other)
				if back, e := Parse(b); err != api.OK || e != api.OK || back != other {
					t.Error(tell(other), tell(back), err, e)
				}
				b, err = Put(s)
				back, e := Parse(want)
				if b != want || err != api.OK || back != s || e != api.OK || Check(s) != api.OK || Class(s.Family, s.Sub) != 3 {
					t.Error(short(b), err, tell(back), e)
				}
			}
		})
	}
	all.Wait()
}
