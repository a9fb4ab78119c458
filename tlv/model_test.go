package tlv

import (
	"encoding/binary"
	"math/rand"
	"slices"
	"strconv"
	"testing"

	"wharf/api"
)

// widths are those that may be; the others are like them, or at the ends of numbers.
var (
	widths      = []int{1, 2, 4}
	otherWidths = []int{0, -1, -2, -4, 3, 5, 6, 7, 8, 16, 255, 256, 257, 1 << 16, 1<<32 + 1, 1<<32 + 2, 1<<32 + 4, 1 << 61, 1<<61 + 1, -1 << 63, -1<<63 + 1, -1<<63 + 2, -1<<63 + 4, 1<<63 - 1}
)

// short makes long texts fit to be told.
func short(s string) string {
	if len(s) > 100 {
		return strconv.Quote(s[:100]) + ".. (" + strconv.Itoa(len(s)) + " bytes)"
	}
	return strconv.Quote(s)
}

// intOf says Int by the words of P11.1.
func intOf(n int64, width int) (string, api.Errno) {
	var b []byte
	switch {
	case width == 1 && 0 <= n && n <= 255:
		b = []byte{byte(n)}
	case width == 2 && 0 <= n && n <= 65535:
		b = binary.BigEndian.AppendUint16(nil, uint16(n))
	case width == 4 && 0 <= n && n <= 4294967295:
		b = binary.BigEndian.AppendUint32(nil, uint32(n))
	default:
		return "", api.ErrArg
	}
	return string(b), api.OK
}

// putOf says Put by the words of P11.2.
func putOf(l []api.Tlv) (string, api.Errno) {
	if len(l) > 64 {
		return "", api.ErrMany
	}
	var b []byte
	for _, t := range l {
		if t.Type < 0 || t.Type > 65535 || len(t.Value) > 65535 {
			return "", api.ErrArg
		}
		b = binary.BigEndian.AppendUint16(b, uint16(t.Type))
		b = binary.BigEndian.AppendUint16(b, uint16(len(t.Value)))
		b = append(b, t.Value...)
	}
	return string(b), api.OK
}

// parseOf says Parse by the words of P11.2: byte by byte, what is wrong is so where it is seen.
func parseOf(s string) ([]api.Tlv, api.Errno) {
	var l []api.Tlv
	var head []byte
	left := 0
	var value []byte
	for i := range len(s) {
		if len(head) < 4 {
			head = append(head, s[i])
			if len(head) < 4 {
				continue
			}
			left = int(binary.BigEndian.Uint16(head[2:]))
		} else {
			value = append(value, s[i])
			left--
		}
		if left > 0 {
			continue
		}
		l = append(l, api.Tlv{Type: int(binary.BigEndian.Uint16(head)), Value: string(value)})
		head, value = nil, nil
		if len(l) > 64 {
			return nil, api.ErrMany
		}
	}
	if len(head) > 0 {
		return nil, api.ErrTlv
	}
	return l, api.OK
}

// firstOf says First by the words of P11.3.
func firstOf(s string, width int) (string, string, api.Errno) {
	if !slices.Contains(widths, width) {
		return "", "", api.ErrArg
	}
	for n := range len(s) + 1 - min(width, len(s)) {
		size, err := intOf(int64(n), width)
		if err == api.OK && len(s) >= width+n && s[:width] == size {
			return s[width : width+n], s[width+n:], api.OK
		}
	}
	return "", "", api.ErrTlv
}

func lookAtInt(t *testing.T, n int64, width int) {
	t.Helper()
	got, err := Int(n, width)
	want, wantErr := intOf(n, width)
	if got != want || err != wantErr {
		t.Fatalf("Int(%d, %d): %x %v, not %x %v", n, width, got, err, want, wantErr)
	}
	if m, err := Num(got); wantErr == api.OK && (m != n || err != api.OK) {
		t.Fatalf("Num(%x): %d %v, not %d", got, m, err, n)
	}
}

func lookAtPut(t *testing.T, l []api.Tlv) string {
	t.Helper()
	got, err := Put(l...)
	want, wantErr := putOf(l)
	if got != want || err != wantErr {
		t.Fatalf("Put of %d: %s %v, not %s %v", len(l), short(got), err, short(want), wantErr)
	}
	return got
}

func lookAtParse(t *testing.T, s string) api.Errno {
	t.Helper()
	got, err := Parse(s)
	want, wantErr := parseOf(s)
	if !slices.Equal(got, want) || err != wantErr {
		t.Fatalf("Parse(%s): %d of them, %v, not %d, %v", short(s), len(got), err, len(want), wantErr)
	}
	return err
}

func lookAtFirst(t *testing.T, s string, width int) api.Errno {
	t.Helper()
	text, rest, err := First(s, width)
	wantText, wantRest, wantErr := firstOf(s, width)
	if text != wantText || rest != wantRest || err != wantErr {
		t.Fatalf("First(%s, %d): %s, %s, %v, not %s, %s, %v", short(s), width, short(text), short(rest), err, short(wantText), short(wantRest), wantErr)
	}
	return err
}

func randomText(r *rand.Rand, n int) string {
	b := make([]byte, n)
	r.Read(b)
	return string(b)
}

// randomList is of n, with values of fewer than size bytes.
func randomList(r *rand.Rand, n, size int) []api.Tlv {
	l := make([]api.Tlv, 0, n+3)
	for range n {
		l = append(l, api.Tlv{Type: r.Intn(1 << r.Intn(17)), Value: randomText(r, r.Intn(size))})
	}
	return l
}

// empties are n of the Types 0, 1 and so on, with no Values.
func empties(n int) []api.Tlv {
	l := make([]api.Tlv, n)
	for i := range l {
		l[i].Type = i
	}
	return l
}
