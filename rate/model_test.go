package rate

import (
	"fmt"
	"math"
	"math/big"
	"math/rand"
	"reflect"
	"slices"

	"wharf/api"
)

// The model of rates and lines: the promises' words, one by one, with the numbers that the chapter has, reckoned in
// numbers without an end.

func tell(x any) string {
	s := fmt.Sprintf("%+v", x)
	return s[:min(len(s), 700)]
}

func checkOf(r api.Rate) api.Errno {
	switch {
	case r.Window < 1, r.Window > 1000:
	case r.Drop < 0, r.Limit < r.Drop, r.Alert < r.Limit, r.Clear < r.Alert, r.Max < r.Clear, r.Max > 4294967295:
	case r.Level < 0, r.Level > r.Max:
	case r.Last < 0, r.Last > 4503599627370496:
	default:
		return 0
	}
	return 190
}

func number(n int64) *big.Int { return big.NewInt(n) }

func lesser(a, b *big.Int) *big.Int {
	if a.Cmp(b) < 0 {
		return a
	}
	return b
}

func greater(a, b *big.Int) *big.Int {
	if a.Cmp(b) > 0 {
		return a
	}
	return b
}

// peekAt is what Peek is to answer at a time that may be any number.
func peekAt(r api.Rate, now *big.Int) int64 {
	d := new(big.Int).Sub(now, number(r.Last))
	d = lesser(greater(d, number(0)), number(4294967295))
	sum := new(big.Int).Mul(number(r.Window-1), number(r.Level))
	sum.Add(sum, d)
	return lesser(number(r.Max), sum.Quo(sum, number(r.Window))).Int64()
}

func peekOf(r api.Rate, now int64) int64 { return peekAt(r, number(now)) }

func mayOf(r api.Rate, now int64) bool { return peekOf(r, now) >= r.Limit }

func sendOf(r api.Rate, now int64) api.Rate {
	level := peekOf(r, now)
	r.Level = level
	if now > r.Last {
		r.Last = now
	}
	return r
}

// scanned is what Wait is to answer, tried one by one up to that many.
func scanned(r api.Rate, now int64, most int64) (int64, bool) {
	for w := range most + 1 {
		if now+w > 4503599627370496 {
			return 4503599627370496, true
		}
		if mayOf(r, now+w) {
			return w, true
		}
	}
	return 0, false
}

// halved is what Wait is to answer, where what may be at a time may be at later ones, too.
func halved(r api.Rate, now int64) int64 {
	const end = 4503599627370496
	if now > end || !mayOf(r, end) {
		return end
	}
	from, to := int64(0), end-now
	for from < to {
		mid := from + (to-from)/2
		if mayOf(r, now+mid) {
			to = mid
		} else {
			from = mid + 1
		}
	}
	return from
}

func pushOf(l api.Line, n api.Note) (api.Line, api.Errno) {
	out := api.Line{Rate: l.Rate}
	put := false
	for _, w := range l.Notes {
		if !put && w.Kind == n.Kind && (n.Kind == 11 || n.Kind == 12) {
			w, put = n, true
		}
		out.Notes = append(out.Notes, w)
	}
	if put {
		return out, 0
	}
	if len(l.Notes) >= 16 {
		return out, 5
	}
	out.Notes = append(out.Notes, n)
	return out, 0
}

func popOf(l api.Line, now int64) (api.Line, []api.Note) {
	if len(l.Notes) == 0 || !mayOf(l.Rate, now) {
		return l, nil
	}
	after, gone := popOf(api.Line{Rate: sendOf(l.Rate, now), Notes: l.Notes[1:]}, now)
	return after, append([]api.Note{l.Notes[0]}, gone...)
}

// alike holds lines, and notes, against each other, where nil and empty lists are the same.
func alike(a, b api.Line) bool { return reflect.DeepEqual(copied(a), copied(b)) }

func alikeNotes(a, b []api.Note) bool { return alike(api.Line{Notes: a}, api.Line{Notes: b}) }

// copied is l in other memory, without lists that are empty but not nil.
func copied(l api.Line) api.Line {
	l.Notes = append([]api.Note(nil), l.Notes...)
	for i, n := range l.Notes {
		l.Notes[i].Items, l.Notes[i].Codes = append([]api.Item(nil), n.Items...), append([]int(nil), n.Codes...)
	}
	return l
}

// numbers are ends of numbers of all widths, and those around them.
func numbers() []int64 {
	l := []int64{math.MinInt64, math.MinInt64 + 1, math.MaxInt64, math.MaxInt64 - 1, 10, 80, 100, 120, 150, 300, 999, 1000, 1001}
	for bit := range 63 {
		for off := int64(-1); off <= 1; off++ {
			l = append(l, 1<<bit+off, -1<<bit+off)
		}
	}
	return l
}

// usual is the rate of a bridge.
func usual() api.Rate {
	return api.Rate{Window: 10, Clear: 150, Alert: 120, Limit: 100, Drop: 80, Max: 300, Level: 300}
}

// upTo is 0 to most, often an end, and often far below most.
func upTo(r *rand.Rand, most int64) int64 {
	switch r.Intn(6) {
	case 0:
		return most
	case 1:
		return 0
	case 2:
		return min(most, r.Int63n(4))
	case 3:
		return min(most, r.Int63n(1<<(1+r.Intn(52))))
	case 4:
		return max(0, most-r.Int63n(4))
	}
	return r.Int63n(most + 1)
}

// randomRate is one that may be.
func randomRate(r *rand.Rand) api.Rate {
	most := upTo(r, 4294967295)
	b := []int64{upTo(r, most), upTo(r, most), upTo(r, most), upTo(r, most)}
	slices.Sort(b)
	return api.Rate{Window: 1 + upTo(r, 999), Drop: b[0], Limit: b[1], Alert: b[2], Clear: b[3], Max: most, Level: upTo(r, most), Last: upTo(r, 4503599627370496)}
}

// randomNow is a time, often one around Last, or the one at which all counts that may.
func randomNow(r *rand.Rand, last int64) int64 {
	now := upTo(r, 4503599627370496)
	switch r.Intn(5) {
	case 0:
		now = last - 3 + r.Int63n(7)
	case 1:
		now = last + 4294967295 - 3 + r.Int63n(7)
	case 2:
		now = last + upTo(r, 1<<33)
	}
	return min(max(now, 0), 4503599627370496)
}

// anyRate is one of which few may be.
func anyRate(r *rand.Rand) api.Rate {
	l := numbers()
	any := func() int64 {
		if r.Intn(3) == 0 {
			return int64(r.Uint64())
		}
		return l[r.Intn(len(l))]
	}
	return api.Rate{Window: any(), Clear: any(), Alert: any(), Limit: any(), Drop: any(), Max: any(), Level: any(), Last: any()}
}

// numbered are notes of these Kinds, told apart by their Codes.
func numbered(kinds ...int) []api.Note {
	var l []api.Note
	for i, k := range kinds {
		l = append(l, api.Note{Kind: k, Code: i})
	}
	return l
}

// full is a note of which every field says something.
func full(kind int) api.Note {
	return api.Note{
		Kind: kind, Name: "Joe B", Text: "text", Data: "data\x00\xff", Code: 7, Status: 3, Idle: 4, Time: 5, Ok: true,
		Items: []api.Item{{Name: "bob", Group: 1, Id: 2, Type: 3, Alias: "B", Await: true}, {Name: "g", Type: 1}}, Codes: []int{1, 2},
	}
}

func randomNote(r *rand.Rand) api.Note {
	kinds := []int{11, 12, 11, 12, 15, 15, 15, 26, 28, 20, r.Intn(34) - 2}
	n := api.Note{Kind: kinds[r.Intn(len(kinds))], Code: r.Intn(1 << 30)}
	if r.Intn(4) == 0 {
		n = full(n.Kind)
		n.Code = r.Intn(1 << 30)
	}
	return n
}

// randomLine is one with any notes, now and then more than may wait.
func randomLine(r *rand.Rand) api.Line {
	l := api.Line{Rate: randomRate(r)}
	for range r.Intn(19) {
		l.Notes = append(l.Notes, randomNote(r))
	}
	return l
}
