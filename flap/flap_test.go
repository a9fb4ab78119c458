package flap

import (
	"math"
	"math/rand"
	"slices"
	"strings"
	"sync"
	"testing"

	"wharf/api"
)

// numbers are ends of numbers of all widths, and those around them.
func numbers() []int {
	l := []int{math.MinInt, math.MinInt + 1, math.MaxInt, math.MaxInt - 1}
	for bit := range 63 {
		for off := -6; off <= 6; off++ {
			l = append(l, 1<<bit+off, -1<<bit+off)
		}
	}
	return l
}

// sizes are lengths around those that matter.
var sizes = []int{0, 1, 2, 5, 6, 7, 254, 255, 256, 257, 511, 512, 4095, 4096, 8190, 8191, 8192, 8193, 8194, 16384, 65535, 65536, 65537, 65536 + 255, 65536 + 8192, 1 << 20}

func lookAtPut(t *testing.T, f api.Frame) string {
	t.Helper()
	got, err := Put(f)
	want, wantErr := putOf(f)
	if got != want || err != wantErr {
		t.Fatalf("Put(%d, %d, %s): %s %v, not %s %v", f.Channel, f.Seq, short(f.Data), short(got), err, short(want), wantErr)
	}
	return got
}

// The chapter's examples.
func TestExamples(t *testing.T) {
	if s, err := Put(api.Frame{Channel: 1, Data: "ab"}); s != "\x2a\x01\x00\x00\x00\x02\x61\x62" || err != api.OK {
		t.Fatalf("%x %v", s, err)
	}
}

// P12.1: every Channel that may be with every Seq, and those around them.
func TestPut(t *testing.T) {
	for channel := -2; channel < 10; channel++ {
		for seq := -3; seq < 65540; seq++ {
			lookAtPut(t, api.Frame{Channel: channel, Seq: seq, Data: "ab"})
		}
	}
	for f, want := range map[api.Frame]string{
		{Channel: 1}:                                  "*\x01\x00\x00\x00\x00",
		{Channel: api.ChAlive, Seq: 65535}:            "*\x05\xff\xff\x00\x00",
		{Channel: 2, Seq: 0x1234, Data: "*\x01"}:      "*\x02\x12\x34\x00\x02*\x01",
		{Channel: 3, Seq: 255, Data: "\x00\xff"}:      "*\x03\x00\xff\x00\x02\x00\xff",
		{Channel: 4, Seq: 256, Data: "\u00e9 \u20ac"}: "*\x04\x01\x00\x00\x06\xc3\xa9 \xe2\x82\xac",
	} {
		if got, err := Put(f); got != want || err != api.OK {
			t.Fatalf("Put(%v): %q %v", f, got, err)
		}
	}
}

// P12.1: Data of all lengths that may be, and longer ones.
func TestPutLong(t *testing.T) {
	all := strings.Repeat("\xfe", 8300)
	for size := range all {
		lookAtPut(t, api.Frame{Channel: 2, Seq: size, Data: all[:size]})
	}
	for _, size := range sizes {
		s := lookAtPut(t, api.Frame{Channel: 2, Data: strings.Repeat("\x00", size)})
		if want := 6 + size; size <= 8192 && len(s) != want || size > 8192 && s != "" {
			t.Fatalf("%d bytes of Data: %d", size, len(s))
		}
	}
}

// P12.1: what may not be, alone and with others; ErrArg is told first.
func TestPutWrong(t *testing.T) {
	seen := map[api.Errno]int{}
	long := strings.Repeat("x", 8193)
	for _, n := range numbers() {
		for _, m := range []int{-1, 0, 1, 2, 5, 6, 255, 65535, 65536, math.MinInt, math.MaxInt} {
			for _, data := range []string{"", "ab", long} {
				for _, f := range []api.Frame{{Channel: n, Seq: m, Data: data}, {Channel: m, Seq: n, Data: data}} {
					lookAtPut(t, f)
					_, err := Put(f)
					seen[err]++
				}
			}
		}
	}
	if len(seen) != 3 || seen[api.ErrLong] < 100 || seen[api.OK] < 100 {
		t.Fatal(seen)
	}
	for _, f := range []api.Frame{{Data: long}, {Channel: 6, Data: long}, {Channel: 1, Seq: -1, Data: long}, {Channel: 1, Seq: 65536, Data: long}, {Channel: 257}, {Channel: 1, Seq: 1<<32 + 1}} {
		if s, err := Put(f); s != "" || err != api.ErrArg {
			t.Fatalf("Put(%d, %d): %s %v", f.Channel, f.Seq, short(s), err)
		}
	}
}

// P12.1: all Seqs, and what is none.
func TestNext(t *testing.T) {
	for seq := range 65535 {
		if got := Next(seq); got != seq+1 {
			t.Fatalf("Next(%d): %d", seq, got)
		}
	}
	if got := Next(65535); got != 0 {
		t.Fatal(got)
	}
	for _, seq := range numbers() {
		if got := Next(seq); (seq < 0 || seq > 65534) && got != 0 {
			t.Fatalf("Next(%d): %d", seq, got)
		}
	}
}

// P12.2: every first byte, and every second one, each wrong at its byte and not ahead of it.
func TestFirstBytes(t *testing.T) {
	ahead := textOf(api.Frame{Channel: 3, Seq: 41, Data: "ab"})
	for _, front := range []string{"", ahead} {
		for a := range 256 {
			s := string([]byte{byte(a)})
			got := lookAtEach(t, front+s+"\x01\x00\x2a\x00\x00")
			if want := a == '*'; (got.err == api.OK) != want || !want && got.err != api.ErrFlap {
				t.Fatalf("first byte %x: %s", a, got.tell())
			}
			got = lookAtEach(t, front+"*"+s)
			if want := 1 <= a && a <= 5; (got.err == api.OK) != want || !want && got.err != api.ErrFlap {
				t.Fatalf("second byte %x: %s", a, got.tell())
			}
		}
	}
}

// P12.2: the first frame has any Seq; the next one just that behind it, which is asked with the fourth byte.
func TestSeqs(t *testing.T) {
	for seq := range 65536 {
		first := textOf(api.Frame{Channel: 1, Seq: seq})
		for _, off := range []int{-256, -255, -1, 0, 1, 2, 255, 256, 257, 32768} {
			second := textOf(api.Frame{Channel: 2, Seq: (seq + off) & 65535})
			r := New()
			got := feed(r, first, second[:3])
			if len(got.frames) != 1 || got.frames[0].Seq != seq || got.err != api.OK || got.left != 3 {
				t.Fatalf("%d, then three bytes: %s", seq, got.tell())
			}
			want := told{err: api.ErrOrder}
			if off == 1 {
				want = told{left: 4}
			}
			if got := feed(r, second[3:4]); !got.same(want) {
				t.Fatalf("%d, then %d: %s", seq, seq+off, got.tell())
			}
			if got := feed(r, second[4:]); len(got.frames) != 0 && off != 1 || len(got.frames) != 1 && off == 1 {
				t.Fatalf("%d, then %d: %s", seq, seq+off, got.tell())
			}
		}
	}
	first := textOf(api.Frame{Channel: 1, Seq: 700})
	for seq := range 65536 {
		want := api.ErrOrder
		if seq == 701 {
			want = api.OK
		}
		if got := feed(New(), first, textOf(api.Frame{Channel: 5, Seq: seq})); got.err != want {
			t.Fatalf("700, then %d: %s", seq, got.tell())
		}
	}
}

// P12.2: the Seq is held against the frame that is right ahead, all the way round.
func TestSeqsAllRound(t *testing.T) {
	r := New()
	seq := 65000
	for i := range 140000 {
		f := api.Frame{Channel: 1 + i%5, Seq: seq, Data: "abc"[:i%4]}
		if got := feed(r, textOf(f)); !got.same(told{frames: []api.Frame{f}}) {
			t.Fatalf("frame %d, %d: %s", i, seq, got.tell())
		}
		seq = Next(seq)
	}
	if got := feed(r, textOf(api.Frame{Channel: 1, Seq: 65000})); got.err != api.ErrOrder {
		t.Fatal(got.tell())
	}
}

// P12.2: every length, wrong with the sixth byte and not ahead of it; the frame is whole with its last byte.
func TestLengths(t *testing.T) {
	data := strings.Repeat("*\x01\x00\x00\x00\x00", 11000)
	for size := range 65536 {
		head := "*\x02\x00\x07" + string([]byte{byte(size >> 8), byte(size)})
		r := New()
		if got := feed(r, head[:5]); !got.same(told{left: 5}) {
			t.Fatalf("length %d, five bytes: %s", size, got.tell())
		}
		got := feed(r, head[5:])
		switch {
		case size > 8192:
			if !got.same(told{err: api.ErrLong}) {
				t.Fatalf("length %d: %s", size, got.tell())
			}
			continue
		case size > 0:
			if !got.same(told{left: 6}) {
				t.Fatalf("length %d: %s", size, got.tell())
			}
			if got := feed(r, data[:size-1]); !got.same(told{left: 6 + size - 1}) {
				t.Fatalf("length %d, but for a byte: %s", size, got.tell())
			}
			got = feed(r, data[size-1:size])
		}
		if !got.same(told{frames: []api.Frame{{Channel: 2, Seq: 7, Data: data[:size]}}}) {
			t.Fatalf("length %d: %s", size, got.tell())
		}
	}
}

// P12.2: of several things that are wrong, that one is told with whose byte they begin.
func TestWhatIsToldFirst(t *testing.T) {
	ahead := textOf(api.Frame{Channel: 1, Seq: 1, Data: "*"})
	for s, want := range map[string]api.Errno{
		"+\x06\x00\x00\xff\xff":                    api.ErrFlap,
		"*\x06\x00\x00\xff\xff":                    api.ErrFlap,
		"*\x05\x00\x00\xff\xff":                    api.ErrLong,
		ahead + "x":                                api.ErrFlap,
		ahead + "*\x00\x00\x05\xff\xff":            api.ErrFlap,
		ahead + "*\x01\x00\x01\xff\xff":            api.ErrOrder,
		ahead + "*\x01\x00\x02\x20\x01":            api.ErrLong,
		ahead + "*\x01\x00\x02\x20\x00":            api.OK,
		ahead + "*\x01\x00\x02\x00\x00x":           api.ErrFlap,
		ahead + "*\x01\x00\x02\x00\x00*\x01\x00":   api.OK,
		ahead + "*\x01\x00\x02\x00\x00" + ahead:    api.ErrOrder,
		ahead + "*\x01\x02\x00":                    api.ErrOrder,
		"*\x01\xff\xff\x00\x00*\x01\x00\x00":       api.OK,
		"*\x01\xff\xff\x00\x00*\x01\xff\xff":       api.ErrOrder,
		"*\x01\xff\xff\x00\x00*\x01\x00\x01":       api.ErrOrder,
		"*\x01\x00\x00\x00\x01\x00*\x01\x00\x00":   api.ErrOrder,
		"*\x01\x00\x00\x00\x01**\x01\x00\x01":      api.OK,
		"**\x01\x00\x00\x00\x00":                   api.ErrFlap,
		"*\x01\x00\x00\x00\x00\r\n":                api.ErrFlap,
		"\x00*\x01\x00\x00\x00\x00":                api.ErrFlap,
		"*\x01\x00\x00\x00\x00\x00*\x01\x00\x01":   api.ErrFlap,
		"*\x01\x00\x00\x00\x02ab*\x01\x00\x01\x01": api.OK,
	} {
		if got := lookAtEach(t, s); got.err != want {
			t.Fatalf("%q: %s, not %v", s, got.tell(), want)
		}
		lookAt(t, s)
	}
}

// P12.2, P12.3: behind something wrong none comes any more, and what was wrong stays.
func TestBehindWrong(t *testing.T) {
	good := []api.Frame{{Channel: 1, Seq: 9, Data: "a"}, {Channel: 2, Seq: 10, Data: "b"}}
	front := textOf(good...)
	for wrong, want := range map[string]api.Errno{
		"x": api.ErrFlap, "*\x00": api.ErrFlap, "*\x06": api.ErrFlap, "*\x01\x00\x0a": api.ErrOrder, "*\x01\x00\x0b\x20\x01": api.ErrLong,
	} {
		for _, behind := range []string{"", "x", "*", wrong, "*\x01\x00\x0b\x20\x01", front, textOf(api.Frame{Channel: 1, Seq: 11}), textOf(api.Frame{Channel: 1, Seq: 12}), strings.Repeat(front, 1000)} {
			if got := feed(New(), front+wrong+behind); !got.same(told{frames: good, err: want}) {
				t.Fatalf("%q, then %s: %s", wrong, short(behind), got.tell())
			}
			r := New()
			feed(r, front, wrong)
			for range 3 {
				for _, pieces := range [][]string{{behind}, bytesOf(behind)} {
					if got := feed(r, pieces...); !got.same(told{err: want}) {
						t.Fatalf("%q, then %s in %d pieces: %s", wrong, short(behind), len(pieces), got.tell())
					}
				}
			}
		}
	}
}

// P12.3: a reader that has read nothing, or only nothing; and one that is nil.
func TestNewAndNil(t *testing.T) {
	r := New()
	if r == nil || r.Err() != api.OK || r.Left() != 0 {
		t.Fatal(r)
	}
	for range 3 {
		if got := feed(r, "", ""); !got.same(told{}) {
			t.Fatal(got.tell())
		}
	}
	var none *Reader
	for _, s := range []string{"", "x", "*", textOf(api.Frame{Channel: 1}), strings.Repeat("*", 100)} {
		if got := feed(none, s); !got.same(told{err: api.ErrNone}) {
			t.Fatalf("nil, %q: %s", s, got.tell())
		}
	}
}

// P12.3: Left at each byte, of frames of all kinds; asking changes nothing.
func TestLeft(t *testing.T) {
	s := ""
	var want []int
	for i, size := range []int{0, 1, 2, 3, 0, 0, 255, 256, 257, 8191, 8192, 0, 5} {
		s += textOf(api.Frame{Channel: 1 + i%5, Seq: (65530 + i) % 65536, Data: strings.Repeat("*", size)})
		for n := 1; n < 6+size; n++ {
			want = append(want, n)
		}
		want = append(want, 0)
	}
	r := New()
	frames := 0
	for i := range len(s) {
		frames += len(r.Feed(s[i : i+1]))
		for range 2 {
			if r.Left() != want[i] || r.Err() != api.OK {
				t.Fatalf("behind byte %d: %d %v, not %d", i, r.Left(), r.Err(), want[i])
			}
		}
		if len(r.Feed("")) != 0 {
			t.Fatalf("behind byte %d: a frame of nothing", i)
		}
	}
	if frames != 13 {
		t.Fatal(frames)
	}
}

// P12.2, P12.3: all short texts of what matters.
func TestShortTexts(t *testing.T) {
	seen := map[api.Errno]int{}
	frames := 0
	var look func(s string, left int)
	look = func(s string, left int) {
		want := toldOf(s)
		if got := feed(New(), s); !got.same(want) {
			t.Fatalf("%q: %s; not %s", s, got.tell(), want.tell())
		}
		seen[want.err]++
		frames += len(want.frames)
		if left > 0 && want.err == api.OK {
			for _, a := range []string{"\x00", "\x01", "*", "\x20", "\xff"} {
				look(s+a, left-1)
			}
		}
	}
	for _, front := range []string{"", "*\x02\x00\x00\x00\x00", "*\x05\xff\xff\x00\x01*", "*\x03\x00\xff\x00\x00"} {
		look(front, 8)
	}
	if len(seen) != 4 || seen[api.OK] < 1000 || seen[api.ErrFlap] < 500 || seen[api.ErrOrder] < 50 || seen[api.ErrLong] < 200 || frames < 1000 {
		t.Fatal(seen, frames)
	}
}

// P12.2, P12.3: frames in order with something changed, in pieces, against the promises' words.
func TestAtRandom(t *testing.T) {
	r := rand.New(rand.NewSource(12))
	seen := map[api.Errno]int{}
	for range 20000 {
		b := []byte(textOf(randomFrames(r, 1+r.Intn(6), 1+r.Intn(20))...))
		for range r.Intn(3) {
			b[r.Intn(len(b))] = []byte{0, 1, 2, 5, 6, '*', 0x20, 0xff, byte(r.Intn(256))}[r.Intn(9)]
		}
		switch r.Intn(5) {
		case 0:
			b = b[:r.Intn(len(b)+1)]
		case 1:
			b = append(b, randomText(r, r.Intn(9))...)
		case 2:
			at := r.Intn(len(b))
			b = slices.Delete(b, at, at+1)
		}
		s := string(b)
		want := lookAt(t, s)
		if got := feed(New(), piecesOf(r, s, 1+r.Intn(20))...); !got.same(want) {
			t.Fatalf("%s, in pieces: %s; not %s", short(s), got.tell(), want.tell())
		}
		if len(s) < 60 {
			lookAtEach(t, s)
		}
		seen[want.err]++
	}
	for _, err := range []api.Errno{api.OK, api.ErrFlap, api.ErrOrder, api.ErrLong} {
		if seen[err] < 500 {
			t.Fatal(seen)
		}
	}
}

// P12.4: what was put comes, in whatever pieces.
func TestThereAndBack(t *testing.T) {
	r := rand.New(rand.NewSource(13))
	for i := range 1500 {
		size := []int{0, 3, 40, 8192}[i%4]
		l := randomFrames(r, r.Intn(8), size)
		s := ""
		for j := range l {
			if j > 0 {
				l[j].Seq = Next(l[j-1].Seq)
			}
			one, err := Put(l[j])
			if err != api.OK {
				t.Fatal(err)
			}
			s += one
		}
		for _, pieces := range [][]string{{s}, bytesOf(s), piecesOf(r, s, 7), piecesOf(r, s, 1+size*2)} {
			if got := feed(New(), pieces...); !got.same(told{frames: l}) {
				t.Fatalf("%d frames, %d bytes, %d pieces: %s", len(l), len(s), len(pieces), got.tell())
			}
		}
	}
	l := randomFrames(r, 9, 30)
	s := textOf(l...)
	for cut := range len(s) + 1 {
		for more := cut; more <= len(s); more += 3 {
			if got := feed(New(), s[:cut], s[cut:more], s[more:]); !got.same(told{frames: l}) {
				t.Fatalf("cut at %d and %d: %s", cut, more, got.tell())
			}
		}
	}
}

// Answers share nothing with one another, nor with what the reader keeps.
func TestAnswersApart(t *testing.T) {
	l := []api.Frame{{Channel: 1, Seq: 1, Data: "abc"}, {Channel: 2, Seq: 2, Data: "def"}, {Channel: 3, Seq: 3, Data: "ghi"}}
	s := textOf(l...)
	r := New()
	first := r.Feed(s + "*\x04\x00\x04\x00\x02x")
	kept := slices.Clone(first)
	spoil := first[:cap(first)]
	for i := range spoil {
		spoil[i] = api.Frame{Channel: 99, Seq: 99, Data: "spoilt"}
	}
	second := r.Feed("y" + textOf(api.Frame{Channel: 5, Seq: 5, Data: "jkl"}))
	if want := []api.Frame{{Channel: 4, Seq: 4, Data: "xy"}, {Channel: 5, Seq: 5, Data: "jkl"}}; !slices.Equal(second, want) || !slices.Equal(kept, l) {
		t.Fatal(second, kept)
	}
	feed(r, "wrong")
	if kept[0].Data != "abc" || second[1].Data != "jkl" || first[0].Data != "spoilt" {
		t.Fatal(kept, second)
	}
}

// What one reader reads is nothing to another one, whatever turns they take.
func TestReadersApart(t *testing.T) {
	rnd := rand.New(rand.NewSource(14))
	var readers [5]*Reader
	var texts [5]string
	var frames, got [5][]api.Frame
	for i := range readers {
		readers[i] = New()
		frames[i] = randomFrames(rnd, 20, 30)
		texts[i] = textOf(frames[i]...)
	}
	wrong := New()
	for turn := range 5000 {
		i := turn % 5
		n := min(len(texts[i]), rnd.Intn(9))
		got[i] = append(got[i], readers[i].Feed(texts[i][:n])...)
		texts[i] = texts[i][n:]
		wrong.Feed("x")
	}
	for i := range readers {
		if !slices.Equal(got[i], frames[i]) || readers[i].Err() != api.OK || readers[i].Left() != 0 {
			t.Fatal(i, len(got[i]))
		}
	}
}

// Calls hang on nothing that others do at the same time.
func TestManyAtOnce(t *testing.T) {
	var all sync.WaitGroup
	for seed := range int64(8) {
		all.Go(func() {
			r := rand.New(rand.NewSource(seed))
			for range 200 {
				l := randomFrames(r, 5, 50)
				s := ""
				for _, f := range l {
					one, _ := Put(f)
					s += one
				}
				if got := feed(New(), piecesOf(r, s, 20)...); !got.same(told{frames: l}) {
					t.Errorf("%s; not %d frames", got.tell(), len(l))
					return
				}
			}
		})
	}
	all.Wait()
}
