package snac

import (
	"encoding/binary"
	"math"
	"math/rand"
	"strconv"
	"strings"
	"testing"

	"wharf/api"
)

// short makes long texts fit to be told.
func short(s string) string {
	if len(s) > 60 {
		return strconv.Quote(s[:60]) + ".. (" + strconv.Itoa(len(s)) + " bytes)"
	}
	return strconv.Quote(s)
}

// tell is fit to be told of a snac that went wrong.
func tell(s api.Snac) string {
	return "{" + strconv.Itoa(s.Family) + " " + strconv.Itoa(s.Sub) + " " + strconv.Itoa(s.Flags) + " " + strconv.FormatInt(s.Req, 10) + " " + short(s.Body) + "}"
}

// checkOf says Check by the words of P13.1.
func checkOf(s api.Snac) api.Errno {
	for _, n := range []int{s.Family, s.Sub, s.Flags} {
		if n < 0 || n > 65535 {
			return api.ErrArg
		}
	}
	if s.Req < 0 || s.Req > 4294967295 {
		return api.ErrArg
	}
	if len(s.Body) > 8182 {
		return api.ErrLong
	}
	return api.OK
}

// putOf says Put by the words of P13.2.
func putOf(s api.Snac) (string, api.Errno) {
	if err := checkOf(s); err != api.OK {
		return "", err
	}
	var b []byte
	b = binary.BigEndian.AppendUint16(b, uint16(s.Family))
	b = binary.BigEndian.AppendUint16(b, uint16(s.Sub))
	b = binary.BigEndian.AppendUint16(b, uint16(s.Flags))
	b = binary.BigEndian.AppendUint32(b, uint32(s.Req))
	return string(b) + s.Body, api.OK
}

// parseOf says Parse by the words of P13.2.
func parseOf(b string) (api.Snac, api.Errno) {
	if len(b) < 10 || len(b) > 8192 {
		return api.Snac{}, api.ErrSnac
	}
	two := func(at int) int { return int(b[at])*256 + int(b[at+1]) }
	return api.Snac{Family: two(0), Sub: two(2), Flags: two(4), Req: int64(two(6))*65536 + int64(two(8)), Body: b[10:]}, api.OK
}

// lookAtPut holds Check and Put of s against the model, and Parse of what was put against s.
func lookAtPut(t *testing.T, s api.Snac) (string, api.Errno) {
	t.Helper()
	want, wantErr := putOf(s)
	if err := Check(s); err != wantErr {
		t.Fatalf("Check(%s): %v, not %v", tell(s), err, wantErr)
	}
	got, err := Put(s)
	if got != want || err != wantErr {
		t.Fatalf("Put(%s): %s %v, not %s %v", tell(s), short(got), err, short(want), wantErr)
	}
	if err == api.OK {
		if back, e := Parse(got); back != s || e != api.OK {
			t.Fatalf("Parse of Put(%s): %s %v", tell(s), tell(back), e)
		}
	}
	return got, err
}

// lookAtParse holds Parse of b against the model, and Put of what was parsed against b.
func lookAtParse(t *testing.T, b string) (api.Snac, api.Errno) {
	t.Helper()
	want, wantErr := parseOf(b)
	got, err := Parse(b)
	if got != want || err != wantErr {
		t.Fatalf("Parse(%s): %s %v, not %s %v", short(b), tell(got), err, tell(want), wantErr)
	}
	if err == api.OK {
		if back, e := Put(got); back != b || e != api.OK {
			t.Fatalf("Put of Parse(%s): %s %v", short(b), short(back), e)
		}
	}
	return got, err
}

// with answers s with n as one of its numbers: 0 is Family, 1 Sub, 2 Flags, 3 Req.
func with(s api.Snac, field int, n int64) api.Snac {
	switch field {
	case 0:
		s.Family = int(n)
	case 1:
		s.Sub = int(n)
	case 2:
		s.Flags = int(n)
	case 3:
		s.Req = n
	}
	return s
}

// numbers are ends of numbers of all widths, and those around them.
func numbers() []int64 {
	l := []int64{math.MinInt64, math.MinInt64 + 1, math.MaxInt64, math.MaxInt64 - 1}
	for bit := range 63 {
		for off := int64(-3); off <= 3; off++ {
			l = append(l, 1<<bit+off, -1<<bit+off)
		}
	}
	return l
}

func randomText(r *rand.Rand, n int) string {
	b := make([]byte, n)
	r.Read(b)
	return string(b)
}

// randomSnac is one that may be, with small and great numbers.
func randomSnac(r *rand.Rand, size int) api.Snac {
	small := func() int { return r.Intn(1 << (1 + r.Intn(16))) }
	return api.Snac{Family: small(), Sub: small(), Flags: small(), Req: r.Int63n(1 << (1 + r.Intn(32))), Body: randomText(r, r.Intn(size+1))}
}

// bodies are of lengths around those that matter.
func bodies() []string {
	var l []string
	for _, n := range []int{0, 1, 9, 10, 11, 255, 256, 8171, 8172, 8173, 8181, 8182, 8183, 8184, 8191, 8192, 8193, 8202, 8203, 16374, 65535, 65536, 65536 + 8182, 1 << 20} {
		l = append(l, strings.Repeat("\xfe", n))
	}
	return l
}
