package flap

import (
	"encoding/binary"
	"math/rand"
	"slices"
	"strconv"
	"strings"
	"testing"

	"wharf/api"
)

// short makes long texts fit to be told.
func short(s string) string {
	if len(s) > 60 {
		return strconv.Quote(s[:60]) + ".. (" + strconv.Itoa(len(s)) + " bytes)"
	}
	return strconv.Quote(s)
}

// putOf says Put by the words of P12.1.
func putOf(f api.Frame) (string, api.Errno) {
	if !slices.Contains([]int{1, 2, 3, 4, 5}, f.Channel) || f.Seq < 0 || f.Seq > 65535 {
		return "", api.ErrArg
	}
	if len(f.Data) > 8192 {
		return "", api.ErrLong
	}
	b := []byte{0x2a, byte(f.Channel)}
	b = binary.BigEndian.AppendUint16(b, uint16(f.Seq))
	b = binary.BigEndian.AppendUint16(b, uint16(len(f.Data)))
	return string(b) + f.Data, api.OK
}

// told is what a reader answers to all calls.
type told struct {
	frames []api.Frame
	err    api.Errno
	left   int
}

// toldOf says what a reader tells that was fed all of s, by the words of P12.2 and P12.3: frame by frame, and of each
// one what is wrong in the order of its bytes.
func toldOf(s string) told {
	var w told
	next := -1
	for s != "" {
		w.err = wrongOf(s, next)
		if w.err != api.OK {
			return w
		}
		if len(s) < 6 || len(s) < 6+sizeOf(s) {
			w.left = len(s)
			return w
		}
		seq := seqOf(s)
		next = (seq + 1) % 65536
		w.frames = append(w.frames, api.Frame{Channel: int(s[1]), Seq: seq, Data: s[6 : 6+sizeOf(s)]})
		s = s[6+sizeOf(s):]
	}
	return w
}

// wrongOf says what is wrong with the frame that s begins with, as far as it has come. The Seq must be next, if that is
// not below 0.
func wrongOf(s string, next int) api.Errno {
	switch {
	case s[0] != '*':
		return api.ErrFlap
	case len(s) >= 2 && strings.IndexByte("\x01\x02\x03\x04\x05", s[1]) < 0:
		return api.ErrFlap
	case len(s) >= 4 && next >= 0 && seqOf(s) != next:
		return api.ErrOrder
	case len(s) >= 6 && sizeOf(s) > 8192:
		return api.ErrLong
	}
	return api.OK
}

func seqOf(s string) int {
	return int(s[2])*256 + int(s[3])
}

func sizeOf(s string) int {
	return int(s[4])*256 + int(s[5])
}

func (w told) same(v told) bool {
	return slices.Equal(w.frames, v.frames) && w.err == v.err && w.left == v.left
}

// tell is fit to be told of a text that went wrong.
func (w told) tell() string {
	s := strconv.Itoa(len(w.frames)) + " frames, error " + strconv.Itoa(int(w.err)) + ", left " + strconv.Itoa(w.left) + ":"
	for _, f := range w.frames {
		s += " {" + strconv.Itoa(f.Channel) + " " + strconv.Itoa(f.Seq) + " " + short(f.Data) + "}"
	}
	return s
}

// feed lets r read pieces, and answers what it told.
func feed(r *Reader, pieces ...string) told {
	var w told
	for _, p := range pieces {
		w.frames = append(w.frames, r.Feed(p)...)
	}
	w.err, w.left = r.Err(), r.Left()
	return w
}

// lookAt lets new readers read s whole and byte by byte, and holds what they tell against the model.
func lookAt(t *testing.T, s string) told {
	t.Helper()
	want := toldOf(s)
	if got := feed(New(), s); !got.same(want) {
		t.Fatalf("%s, whole: %s; not %s", short(s), got.tell(), want.tell())
	}
	if got := feed(New(), bytesOf(s)...); !got.same(want) {
		t.Fatalf("%s, byte by byte: %s; not %s", short(s), got.tell(), want.tell())
	}
	return want
}

// lookAtEach lets one reader read s byte by byte, and holds what it tells behind each of them against the model.
func lookAtEach(t *testing.T, s string) told {
	t.Helper()
	r := New()
	var got told
	for i := range len(s) {
		one := feed(r, s[i:i+1])
		if len(one.frames) > 1 {
			t.Fatalf("%s: %d frames at byte %d", short(s), len(one.frames), i)
		}
		one.frames = append(got.frames, one.frames...)
		got = one
		if want := toldOf(s[:i+1]); !got.same(want) {
			t.Fatalf("%s, behind byte %d: %s; not %s", short(s), i, got.tell(), want.tell())
		}
	}
	return got
}

func bytesOf(s string) []string {
	var l []string
	for i := range len(s) {
		l = append(l, s[i:i+1])
	}
	return l
}

// piecesOf tears s at random places, also so that pieces are empty.
func piecesOf(r *rand.Rand, s string, longest int) []string {
	l := []string{""}
	for s != "" {
		n := min(len(s), r.Intn(longest+1))
		l = append(l, s[:n])
		s = s[n:]
	}
	return append(l, "")
}

func randomText(r *rand.Rand, n int) string {
	b := make([]byte, n)
	r.Read(b)
	return string(b)
}

// randomFrames are n in order, from any Seq on, with Data of at most size bytes.
func randomFrames(r *rand.Rand, n, size int) []api.Frame {
	l := make([]api.Frame, 0, n)
	seq := []int{0, 65535, 65534, 65536 - n, r.Intn(65536)}[r.Intn(5)] & 65535
	for range n {
		l = append(l, api.Frame{Channel: 1 + r.Intn(5), Seq: seq, Data: randomText(r, r.Intn(size+1))})
		seq = (seq + 1) % 65536
	}
	return l
}

// textOf puts frames one behind the other, by the model.
func textOf(l ...api.Frame) string {
	s := ""
	for _, f := range l {
		one, _ := putOf(f)
		s += one
	}
	return s
}
