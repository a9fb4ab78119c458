package tlv

import (
	"math"
	"math/rand"
	"slices"
	"strings"
	"sync"
	"testing"

	"wharf/api"
)

// P11.1: all numbers of one byte and of two, and those around them.
func TestInt(t *testing.T) {
	for n := int64(-300); n < 1<<16+300; n++ {
		for _, width := range widths {
			lookAtInt(t, n, width)
		}
	}
	for _, c := range []struct {
		n     int64
		width int
		want  string
	}{
		{0, 1, "\x00"}, {255, 1, "\xff"}, {0, 2, "\x00\x00"}, {256, 2, "\x01\x00"}, {65535, 2, "\xff\xff"},
		{0, 4, "\x00\x00\x00\x00"}, {1, 4, "\x00\x00\x00\x01"}, {0x12345678, 4, "\x12\x34\x56\x78"}, {1<<32 - 1, 4, "\xff\xff\xff\xff"},
	} {
		if got, err := Int(c.n, c.width); got != c.want || err != api.OK {
			t.Fatalf("Int(%d, %d): %x %v", c.n, c.width, got, err)
		}
	}
}

// P11.1: the ends of numbers of each width, each bit, and any others.
func TestIntAtTheEdges(t *testing.T) {
	r := rand.New(rand.NewSource(11))
	var numbers []int64
	for bit := range 64 {
		for off := int64(-2); off <= 2; off++ {
			numbers = append(numbers, 1<<bit+off, -1<<bit+off)
		}
	}
	for range 20000 {
		numbers = append(numbers, r.Int63n(1<<32), int64(r.Uint64()))
	}
	numbers = append(numbers, math.MinInt64, math.MaxInt64, 1<<32, 1<<32+255, -1<<32)
	for _, n := range numbers {
		for _, width := range widths {
			lookAtInt(t, n, width)
		}
	}
}

// P11.1: other widths have no numbers.
func TestIntOfOtherWidths(t *testing.T) {
	for _, width := range otherWidths {
		for _, n := range []int64{0, 1, -1, 255, 256, 65535, 1 << 24, 1<<32 - 1, 1 << 32, math.MinInt64, math.MaxInt64} {
			if got, err := Int(n, width); got != "" || err != api.ErrArg {
				t.Fatalf("Int(%d, %d): %x %v", n, width, got, err)
			}
		}
	}
}

// P11.1, P11.4: all texts of one byte and of two, and some of four, are Ints of their Nums.
func TestNum(t *testing.T) {
	look := func(s string) {
		t.Helper()
		n, err := Num(s)
		if back, _ := intOf(n, len(s)); err != api.OK || back != s {
			t.Fatalf("Num(%x): %d %v", s, n, err)
		}
	}
	for a := range 256 {
		look(string([]byte{byte(a)}))
		for b := range 256 {
			look(string([]byte{byte(a), byte(b)}))
			look(string([]byte{byte(a), byte(b), byte(a * 3), byte(b * 5)}))
			look(string([]byte{byte(b * 7), byte(a * 11), byte(b), byte(a)}))
		}
	}
	if n, err := Num("\xff\xff\xff\xff"); n != 1<<32-1 || err != api.OK {
		t.Fatal(n, err)
	}
}

// P11.1: texts of other lengths are no numbers, whatever their bytes are.
func TestNumOfOtherLengths(t *testing.T) {
	lengths := []int{0, 3, 255, 256, 257, 258, 260, 1<<16 + 1, 1<<16 + 2, 1<<16 + 4, 1 << 20}
	for n := 5; n < 70; n++ {
		lengths = append(lengths, n)
	}
	for _, n := range lengths {
		for _, s := range []string{"\x00", "\x01", "a", "\xff"} {
			if got, err := Num(strings.Repeat(s, n)); got != 0 || err != api.ErrTlv {
				t.Fatalf("Num of %d bytes %x: %d %v", n, s, got, err)
			}
		}
	}
}

// P11.2: what is put, in its order, with the edges of Types and of Values.
func TestPut(t *testing.T) {
	lookAtPut(t, nil)
	lookAtPut(t, []api.Tlv{})
	for kind := range 1 << 16 {
		lookAtPut(t, []api.Tlv{{Type: kind, Value: "ab"}, {Type: 65535 - kind}})
	}
	for _, size := range []int{0, 1, 2, 254, 255, 256, 257, 65534, 65535, 65536, 65537, 65536 + 255, 1 << 17, 1 << 24} {
		lookAtPut(t, []api.Tlv{{Type: 5, Value: strings.Repeat("\xfe", size)}})
		lookAtPut(t, []api.Tlv{{Type: 5, Value: "x"}, {Type: 5, Value: strings.Repeat("\xfe", size)}, {Type: 4, Value: "y"}})
	}
	for n := range 65 {
		lookAtPut(t, empties(n))
	}
	if s := lookAtPut(t, empties(64)); len(s) != 256 {
		t.Fatal(len(s))
	}
}

// P11.2: one that may not be, wherever it stands; too many come ahead of it.
func TestPutWrong(t *testing.T) {
	long := strings.Repeat("x", 65536)
	wrong := []api.Tlv{{Value: long}, {Type: -1, Value: long}}
	for _, kind := range []int{-1, -2, -256, -65536, -65535, 65536, 65537, 1 << 31, 1 << 32, 1<<32 + 1, 1<<48 + 5, math.MinInt, math.MinInt + 1, math.MaxInt} {
		wrong = append(wrong, api.Tlv{Type: kind}, api.Tlv{Type: kind, Value: "ab"})
	}
	for _, w := range wrong {
		for _, n := range []int{1, 2, 3, 63, 64, 65, 66, 200} {
			for _, at := range []int{0, n / 2, n - 1} {
				l := empties(n)
				l[at] = w
				want := api.ErrArg
				if n > 64 {
					want = api.ErrMany
				}
				if s, err := Put(l...); s != "" || err != want {
					t.Fatalf("Put of %d, of which %d has the Type %d: %s %v", n, at, w.Type, short(s), err)
				}
			}
		}
	}
	for _, n := range []int{65, 66, 128, 256, 320, 1 << 16, 1<<16 + 1, 1 << 20} {
		lookAtPut(t, empties(n))
		lookAtPut(t, make([]api.Tlv, n))
	}
}

// P11.2: all short texts of what matters: just those that some list's Put is can be parsed.
func TestParseShortTexts(t *testing.T) {
	good := map[string][]api.Tlv{}
	var lists func(l []api.Tlv, left int)
	letters := []string{"\x00", "\x01", "\x02"}
	values := []string{""}
	for _, a := range letters {
		values = append(values, a)
		for _, b := range letters {
			values = append(values, a+b)
		}
	}
	lists = func(l []api.Tlv, left int) {
		s, _ := putOf(l)
		good[s] = slices.Clone(l)
		for _, v := range values {
			if left >= 4+len(v) {
				for _, kind := range []int{0, 1, 2, 256, 257, 258, 512, 513, 514} {
					lists(append(slices.Clone(l), api.Tlv{Type: kind, Value: v}), left-4-len(v))
				}
			}
		}
	}
	lists(nil, 10)
	found := 0
	var texts func(s string, left int)
	texts = func(s string, left int) {
		l, err := Parse(s)
		if want, ok := good[s]; ok && (err != api.OK || !slices.Equal(l, want)) || !ok && (err != api.ErrTlv || len(l) > 0) {
			t.Fatalf("Parse(%x): %v %v", s, l, err)
		}
		if err == api.OK {
			found++
		}
		if left > 0 {
			for _, a := range letters {
				texts(s+a, left-1)
			}
		}
	}
	texts("", 10)
	if found != len(good) {
		t.Fatalf("%d of %d", found, len(good))
	}
}

// P11.2: what ends within one, at each place; too many, whole, or the last one torn; which of both comes first.
func TestParseWrong(t *testing.T) {
	r := rand.New(rand.NewSource(2))
	for _, n := range []int{1, 2, 3, 63, 64, 65, 66, 70} {
		s, bytesOf := "", 0
		for i := range n {
			one, _ := putOf([]api.Tlv{{Type: i, Value: randomText(r, 1+r.Intn(4))}})
			s += one
			if i < 65 {
				bytesOf = len(s) // behind the 65th there are too many, whatever comes
			}
		}
		seen := map[api.Errno]int{}
		for end := range len(s) + 1 {
			err := lookAtParse(t, s[:end])
			seen[err]++
			if n >= 65 && (err == api.ErrMany) != (end >= bytesOf) {
				t.Fatalf("%d, cut behind %d bytes: %v", n, end, err)
			}
		}
		if seen[api.OK] != min(n, 64)+1 || seen[api.ErrTlv] == 0 || (seen[api.ErrMany] > 0) != (n > 64) {
			t.Fatalf("%d: %v", n, seen)
		}
	}
	full := strings.Repeat("\x00\x01\x00\x00", 64)
	for s, want := range map[string]api.Errno{
		full:                                       api.OK,
		full + "\x00":                              api.ErrTlv,
		full + "\x00\x01\x00":                      api.ErrTlv,
		full + "\x00\x01\x00\x01":                  api.ErrTlv,
		full + "\x00\x01\x00\x00":                  api.ErrMany,
		full + "\x00\x01\x00\x00\x00":              api.ErrMany,
		full + full:                                api.ErrMany,
		full[4:] + "\x00\x01\x00\x01":              api.ErrTlv,
		full[4:] + "\x00\x01\x00\x01a":             api.OK,
		full[4:] + "\x00\x01\x00\x01ab":            api.ErrTlv,
		"\x00\x01\xff\xff" + full + full:           api.ErrTlv,
		full + "\x00\x01\xff\xff":                  api.ErrTlv,
		full[8:] + "\x00\x01\x01\x00" + full:       api.OK,
		full[8:] + "\x00\x01\x01\x01" + full:       api.ErrTlv,
		full[8:] + "\x00\x01\x00\xfc" + full:       api.OK,
		full[8:] + "\x00\x01\x00\xf8" + full:       api.ErrMany,
		full + strings.Repeat("\x00\x00", 2000000): api.ErrMany,
	} {
		if got := lookAtParse(t, s); got != want {
			t.Fatalf("Parse(%s), %d bytes: %v, not %v", short(s), len(s), got, want)
		}
	}
}

// P11.2: bytes that were thrown together, against the promise's words.
func TestParseAtRandom(t *testing.T) {
	r := rand.New(rand.NewSource(3))
	seen := map[api.Errno]int{}
	for range 30000 {
		s, _ := putOf(randomList(r, r.Intn(65), 1+r.Intn(9)))
		b := []byte(s)
		for range r.Intn(3) {
			if len(b) > 0 {
				b[r.Intn(len(b))] = byte(r.Intn(9))
			}
		}
		switch r.Intn(4) {
		case 0:
			b = b[:r.Intn(len(b)+1)]
		case 1:
			b = append(b, randomText(r, r.Intn(9))...)
		case 2:
			b = append(b, make([]byte, 4*r.Intn(70))...)
		}
		seen[lookAtParse(t, string(b))]++
	}
	for _, err := range []api.Errno{api.OK, api.ErrTlv, api.ErrMany} {
		if seen[err] < 1000 {
			t.Fatalf("only %d of %v", seen[err], err)
		}
	}
}

// P11.2: the first one with that Type, also of Types that Put refuses, and of more than may be put.
func TestFind(t *testing.T) {
	kinds := []int{0, 1, 2, 255, 256, 257, 65535, 65536, -1, -65536, 1 << 32, 1<<32 + 1, math.MinInt, math.MaxInt}
	r := rand.New(rand.NewSource(4))
	found := 0
	for range 20000 {
		l := make([]api.Tlv, r.Intn(8))
		for i := range l {
			l[i] = api.Tlv{Type: kinds[r.Intn(len(kinds))], Value: []string{"", "a", "b", "c\xff"}[r.Intn(4)]}
		}
		for _, kind := range kinds {
			want, ok := "", false
			if i := slices.IndexFunc(l, func(t api.Tlv) bool { return t.Type == kind }); i >= 0 {
				want, ok = l[i].Value, true
				found++
			}
			if got, is := Find(l, kind); got != want || is != ok {
				t.Fatalf("Find(%v, %d): %q %v", l, kind, got, is)
			}
		}
	}
	if found < 1000 {
		t.Fatal(found)
	}
	if v, ok := Find(nil, 0); v != "" || ok {
		t.Fatal(v, ok)
	}
	many := empties(1 << 20)
	many[1<<20-1].Value = "x"
	if v, ok := Find(many, 1<<20-1); v != "x" || !ok {
		t.Fatal(v, ok)
	}
	if v, ok := Find(many, 1<<20); v != "" || ok {
		t.Fatal(v, ok)
	}
}

// What is asked for stops at the first: no other value is gone through.
func TestFindStops(t *testing.T) {
	l := []api.Tlv{{Type: 1, Value: "a"}, {Type: 2, Value: "b"}, {Type: 1, Value: "c"}, {Type: 1, Value: "d"}}
	var got []string
	for v := range valuesOf(l, 1) {
		got = append(got, v)
	}
	if !slices.Equal(got, []string{"a", "c", "d"}) {
		t.Fatal(got)
	}
	got = nil
	for v := range valuesOf(l, 1) {
		got = append(got, v)
		if v == "c" {
			break
		}
	}
	if !slices.Equal(got, []string{"a", "c"}) {
		t.Fatal(got)
	}
}

// P11.3: texts of each width, around the greatest length of it.
func TestText(t *testing.T) {
	for _, size := range []int{0, 1, 2, 254, 255, 256, 257, 511, 512, 65534, 65535, 65536, 65537, 1<<16 + 255, 1 << 17, 1 << 24} {
		s := strings.Repeat("\xfd", size)
		for _, width := range append(widths, otherWidths...) {
			want, wantErr := intOf(int64(size), width)
			if wantErr == api.OK {
				want += s
			}
			if got, err := Text(s, width); got != want || err != wantErr {
				t.Fatalf("Text of %d bytes, %d: %s %v", size, width, short(got), err)
			}
		}
	}
	if s, err := Text("ab", 2); s != "\x00\x02ab" || err != api.OK {
		t.Fatal(s, err)
	}
}

// P11.3: all short texts of what matters, in each width.
func TestFirstOfShortTexts(t *testing.T) {
	seen := map[api.Errno]int{}
	var look func(s string, left int)
	look = func(s string, left int) {
		for _, width := range []int{1, 2, 4, 0, -1, 3} {
			seen[lookAtFirst(t, s, width)]++
		}
		if left > 0 {
			for _, a := range []string{"\x00", "\x01", "\x03", "\xff"} {
				look(s+a, left-1)
			}
		}
	}
	look("", 8)
	if len(seen) != 3 || seen[api.OK] < 1000 || seen[api.ErrTlv] < 1000 {
		t.Fatal(seen)
	}
}

// P11.3: other widths are told first, whatever is read.
func TestFirstOfOtherWidths(t *testing.T) {
	for _, width := range otherWidths {
		for _, s := range []string{"", "\x00", "\x00\x02abc", "\x00\x00\x00\x00", "\x00\x00\x00", "abc", strings.Repeat("\x00", 300)} {
			if text, rest, err := First(s, width); text != "" || rest != "" || err != api.ErrArg {
				t.Fatalf("First(%s, %d): %q, %q, %v", short(s), width, text, rest, err)
			}
		}
	}
}

// P11.3: what is torn, and what tells of more bytes than there are.
func TestFirstWrong(t *testing.T) {
	for _, width := range widths {
		for _, size := range []int{0, 1, 2, 100, 255, 256, 65535, 65536} {
			s, err := Text(strings.Repeat("x", size), width)
			if err != api.OK {
				continue
			}
			for _, end := range []int{0, 1, width - 1, width, width + size/2, width + size - 1} {
				if end >= len(s) || end < 0 {
					continue
				}
				if text, rest, err := First(s[:end], width); text != "" || rest != "" || err != api.ErrTlv {
					t.Fatalf("First(%s, %d), %d bytes: %s, %s, %v", short(s), width, end, short(text), short(rest), err)
				}
			}
		}
	}
	for _, s := range []string{"\xff\xff\xff\xff", "\xff\xff\xff\xffabc", "\x80\x00\x00\x00", "\x7f\xff\xff\xffab", "\x00\x01\x00\x00" + strings.Repeat("x", 65535), "\x01\x00\x00\x00\x00"} {
		if text, rest, err := First(s, 4); text != "" || rest != "" || err != api.ErrTlv {
			t.Fatalf("First(%s, 4): %s, %s, %v", short(s), short(text), short(rest), err)
		}
	}
}

// P11.4: what was put comes back, whatever is behind it.
func TestThereAndBack(t *testing.T) {
	r := rand.New(rand.NewSource(5))
	for range 5000 {
		l := randomList(r, r.Intn(65), 1+r.Intn(30))
		s, err := Put(l...)
		if back, e := Parse(s); err != api.OK || e != api.OK || !slices.Equal(back, l) {
			t.Fatalf("Parse of Put(%v): %v %v", l, back, e)
		}
		for _, v := range l {
			first := slices.IndexFunc(l, func(w api.Tlv) bool { return w.Type == v.Type })
			if got, ok := Find(l, v.Type); got != l[first].Value || !ok {
				t.Fatalf("Find(%v, %d): %q %v", l, v.Type, got, ok)
			}
		}
	}
	for range 20000 {
		s, behind, width := randomText(r, r.Intn(300)), randomText(r, r.Intn(20)), widths[r.Intn(3)]
		whole, err := Text(s, width)
		if err != api.OK {
			continue
		}
		if text, rest, err := First(whole+behind, width); text != s || rest != behind || err != api.OK {
			t.Fatalf("First(%s, %d): %s, %s, %v", short(whole+behind), width, short(text), short(rest), err)
		}
	}
	great := make([]api.Tlv, 64)
	for i := range great {
		great[i] = api.Tlv{Type: 65535 - i, Value: strings.Repeat(string([]byte{byte(i)}), 65535)}
	}
	s, err := Put(great...)
	if back, e := Parse(s); err != api.OK || e != api.OK || len(s) != 64*65539 || !slices.Equal(back, great) {
		t.Fatal(len(s), err, e)
	}
	if text, rest, err := First("\x00\x01\x00\x00"+s[:65540], 4); text != s[:65536] || rest != s[65536:65540] || err != api.OK {
		t.Fatal(len(text), len(rest), err)
	}
}

// What is handed in is not changed, spare room neither; two answers share nothing.
func TestAnswersAreApart(t *testing.T) {
	l := make([]api.Tlv, 0, 10)
	l = append(l, api.Tlv{Type: 1, Value: "ab"}, api.Tlv{Type: 2, Value: "c"})
	full := l[:10]
	full[2] = api.Tlv{Type: 7, Value: "spare"}
	was := slices.Clone(full)
	s, _ := Put(l...)
	Find(l, 2)
	Find(l, 7)
	if !slices.Equal(full, was) {
		t.Fatal(full)
	}
	if v, ok := Find(l, 7); v != "" || ok {
		t.Fatal("found in the spare room")
	}
	a, _ := Parse(s)
	b, _ := Parse(s)
	clear(a[:cap(a)])
	if !slices.Equal(b, l) {
		t.Fatal(b)
	}
	for _, v := range b[len(b):cap(b)] {
		if v != (api.Tlv{}) {
			t.Fatal(v)
		}
	}
	if again, _ := Parse(s); !slices.Equal(again, l) {
		t.Fatal(again)
	}
}

// All are pure functions: the same every time, also at the same time.
func TestPure(t *testing.T) {
	l := []api.Tlv{{Type: 1, Value: "ab"}, {Type: 0x131}, {Type: 1, Value: "c"}}
	want := lookAtPut(t, l)
	var all sync.WaitGroup
	for range 8 {
		all.Go(func() {
			for range 500 {
				s, err := Put(l...)
				back, e := Parse(want)
				v, ok := Find(l, 1)
				if s != want || err != api.OK || e != api.OK || !slices.Equal(back, l) || v != "ab" || !ok {
					t.Error(s, err, back, e, v, ok)
				}
				text, rest, err := First(want[2:], 2)
				n, e := Num(want[:4])
				again, _ := Int(n, 4)
				if text != "ab" || rest != want[6:] || err != api.OK || n != 0x10002 || e != api.OK || again != want[:4] {
					t.Error(text, rest, err, n, e, again)
				}
			}
		})
	}
	all.Wait()
}

// The chapter's example.
func TestExamples(t *testing.T) {
	if s, err := Put(api.Tlv{Type: 1, Value: "ab"}); s != "\x00\x01\x00\x02ab" || err != api.OK {
		t.Fatalf("%x %v", s, err)
	}
	if s, err := Put(); s != "" || err != api.OK {
		t.Fatalf("%x %v", s, err)
	}
	if l, err := Parse(""); len(l) != 0 || err != api.OK {
		t.Fatal(l, err)
	}
}
