package session

import (
	"crypto/md5"
	"fmt"
	"math"
	"math/rand"
	"reflect"
	"strings"

	"wharf/api"
)

// The model of a session: the promises' words, kind by kind, with the numbers that the chapters have.

func tell(x any) string {
	s := fmt.Sprintf("%+v", x)
	return s[:min(len(s), 500)]
}

func kinds(names ...int) map[int]bool {
	m := map[int]bool{}
	for _, k := range names {
		m[k] = true
	}
	return m
}

func saltedOf(key, password string) string {
	inner := md5.Sum([]byte(password))
	outer := md5.Sum([]byte(key + string(inner[:]) + "AOL Instant Messenger (SM)"))
	return string(outer[:])
}

// plainOf is a name without its blanks, all small.
func plainOf(name string) string {
	return strings.ToLower(strings.ReplaceAll(name, " ", ""))
}

func upOf(notes ...api.Note) api.Said {
	return api.Said{Up: notes}
}

// sayOf is what notes do that are said: it was just now that something was sent.
func sayOf(s *api.Session, said *api.Said, fresh bool, notes ...api.Note) {
	s.Said, said.Notes, said.Fresh = 0, notes, fresh
}

func isOn(s api.Session) bool {
	return kinds(1, 2, 3, 4, 5)[s.Phase]
}

func startOf(name, password string, status int, time int64, count int, may bool) (api.Session, api.Said, api.Errno) {
	if !may {
		return api.Session{}, api.Said{}, 2
	}
	s := api.Session{Phase: 1, Name: name, Password: password, Status: status, Time: time, Count: count}
	return s, api.Said{Notes: []api.Note{{Kind: 1}, {Kind: 5, Name: name}}, Fresh: true}, 0
}

func takeOf(s api.Session, n api.Note) (api.Session, api.Said) {
	var said api.Said
	if !isOn(s) {
		return s, said
	}
	s.Heard = 0
	switch n.Kind {
	case 3:
		s.Phase, s.Code, said = 6, n.Code, upOf(n)
	case 6:
		if s.Phase == 1 {
			s.Phase = 2
			sayOf(&s, &said, false, api.Note{Kind: 7, Name: s.Name, Data: saltedOf(n.Data, s.Password)})
		}
	case 8:
		if s.Phase != 2 || plainOf(n.Name) != plainOf(s.Name) {
			break
		}
		if n.Code != 0 {
			s.Phase, s.Code, said = 6, n.Code, upOf(api.Note{Kind: 3, Code: n.Code})
			break
		}
		s.Phase = 3
		sayOf(&s, &said, true, api.Note{Kind: 2, Data: n.Data})
	case 9:
		if s.Phase == 3 {
			s.Phase = 4
			sayOf(&s, &said, false, api.Note{Kind: 17, Time: s.Time, Code: s.Count})
		}
	case 18, 19:
		if s.Phase == 4 {
			s.Phase, said = 5, upOf(n)
			sayOf(&s, &said, false, api.Note{Kind: 10}, api.Note{Kind: 11, Status: s.Status})
		} else if s.Phase == 5 {
			said = upOf(n)
		}
	case 13, 14, 16, 25, 27, 29:
		if s.Phase == 5 {
			said = upOf(n)
		}
	}
	return s, said
}

func tickOf(s api.Session) (api.Session, api.Said) {
	var said api.Said
	if !isOn(s) {
		return s, said
	}
	for _, ticks := range []*int{&s.Heard, &s.Said} {
		if *ticks != math.MaxInt {
			*ticks++
		}
	}
	if s.Heard >= 90 {
		s.Phase, s.Code, said = 6, 200, upOf(api.Note{Kind: 3, Code: 200})
		sayOf(&s, &said, false, api.Note{Kind: 3})
	} else if s.Phase == 5 && s.Said >= 30 {
		sayOf(&s, &said, false, api.Note{Kind: 4})
	}
	return s, said
}

func stopOf(s api.Session, code int) (api.Session, api.Said) {
	var said api.Said
	if isOn(s) {
		s.Phase, s.Code = 6, code
		sayOf(&s, &said, false, api.Note{Kind: 3})
	}
	return s, said
}

func sentOf(s api.Session) api.Session {
	if isOn(s) {
		s.Said = 0
	}
	return s
}

// alike holds what comes of a step against something, where nil and empty lists are the same.
func alike(a, b api.Said) bool {
	a.Notes, b.Notes, a.Up, b.Up = evened(a.Notes), evened(b.Notes), evened(a.Up), evened(b.Up)
	return reflect.DeepEqual(a, b)
}

func evened(notes []api.Note) []api.Note {
	l := []api.Note{}
	for _, n := range notes {
		if len(n.Items) == 0 {
			n.Items = nil
		}
		if len(n.Codes) == 0 {
			n.Codes = nil
		}
		l = append(l, n)
	}
	return l
}

// numbers are ends of numbers of all widths, and those around them.
func numbers() []int64 {
	l := []int64{math.MinInt64, math.MinInt64 + 1, math.MaxInt64, math.MaxInt64 - 1, 5, 6, 10, 29, 30, 31, 89, 90, 91, 200, 201}
	for bit := range 63 {
		for off := int64(-2); off <= 2; off++ {
			l = append(l, 1<<bit+off, -1<<bit+off)
		}
	}
	return l
}

// phases are all that there are, and some that there are not.
func phases() []int {
	l := []int{math.MinInt, -1, 0, 1, 2, 3, 4, 5, 6, 7, 8, 256, 257, 1<<32 + 5, math.MaxInt}
	return l
}

// someKinds are all Kinds, and some that there are not.
func someKinds() []int {
	l := []int{math.MinInt, -3, -1, 30, 31, 256 + 3, 1<<16 + 3, 1<<32 + 3, 1<<32 + 18, math.MaxInt}
	for k := range 30 {
		l = append(l, k)
	}
	return l
}

// full is a note of which every field says something.
func full(kind int) api.Note {
	return api.Note{
		Kind: kind, Name: "Joe B", Text: "text", Data: "data\x00\xff", Code: 7, Status: 3, Idle: 4, Time: 5, Ok: true,
		Items: []api.Item{{Name: "bob", Group: 1, Id: 2, Type: 3, Alias: "B", Await: true}, {Name: "g", Type: 1}}, Codes: []int{1, 2},
	}
}

func randomSession(r *rand.Rand) api.Session {
	return api.Session{
		Phase: r.Intn(9) - 1, Name: pick(r, "joe", "Joe B", "12345", ""), Password: pick(r, "p", "secret", ""), Status: r.Intn(1 << 17), Time: r.Int63(),
		Count: r.Intn(200), Heard: r.Intn(100) - 4, Said: r.Intn(40) - 4, Code: r.Intn(10),
	}
}

func randomNote(r *rand.Rand) api.Note {
	n := full(r.Intn(32) - 1)
	n.Name, n.Data, n.Code = pick(r, "joe", "J O E", "Joe B", "joeb", "12345", "bob", ""), pick(r, "", "k", "12345678"), r.Intn(3)
	if r.Intn(2) == 0 {
		n.Items, n.Codes = nil, nil
	}
	return n
}

func pick(r *rand.Rand, l ...string) string {
	return l[r.Intn(len(l))]
}
