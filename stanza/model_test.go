package stanza

import (
	"fmt"
	"reflect"
	"slices"
	"strings"
	"testing"

	"wharf/api"
	"wharf/glyph"
	"wharf/jid"
	"wharf/tag"
)

// The words of P9.1, P9.3 and P9.5.
const (
	space       = "jabber:component:accept"
	errorsSpace = "urn:ietf:params:xml:ns:xmpp-stanzas"

	condWords = "bad-request conflict feature-not-implemented forbidden internal-server-error item-not-found jid-malformed " +
		"not-acceptable not-allowed not-authorized recipient-unavailable registration-required remote-server-not-found " +
		"resource-constraint service-unavailable subscription-required unexpected-request undefined-condition"
	ownWords = "show status priority body thread subject error"
)

// The Types of each Kind: a word is what stands between two blanks, also nothing.
var typeWords = map[int]string{
	1: " unavailable subscribe subscribed unsubscribe unsubscribed probe error",
	2: " chat normal headline error",
	3: "get set result error",
}

var errorWords = map[string]string{
	"auth":   "forbidden not-authorized registration-required subscription-required",
	"modify": "bad-request jid-malformed not-acceptable",
	"wait":   "recipient-unavailable resource-constraint unexpected-request internal-server-error",
}

func oneOf(s, words string) bool {
	return slices.Contains(strings.Split(words, " "), s)
}

func typeOfError(cond string) string {
	for kind, words := range errorWords {
		if oneOf(cond, words) {
			return kind
		}
	}
	return "cancel"
}

// checkOf says P9.1 by its words.
func checkOf(s api.Stanza) api.Errno {
	good := (s.Kind == 1 || s.Kind == 2 || s.Kind == 3) && oneOf(s.Type, typeWords[s.Kind])
	good = good && jid.Check(s.From) == api.OK && jid.Check(s.To) == api.OK
	for _, text := range []string{s.Id, s.Show, s.Status, s.Body} {
		good = good && glyph.Check(text) == api.OK
	}
	good = good && len(s.Id) <= 256 && len(s.Status) <= 4096 && len(s.Body) <= 4096
	good = good && (s.Show == "" || s.Kind == 1 && s.Type == "" && oneOf(s.Show, "away chat dnd xa"))
	good = good && (s.Status == "" || s.Kind == 1) && (s.Body == "" || s.Kind == 2) && (s.Id != "" || s.Kind != 3)
	if s.Type == "error" {
		good = good && oneOf(s.Cond, condWords)
	} else {
		good = good && s.Cond == ""
	}
	for _, e := range s.Load {
		good = good && tag.Check(e) == api.OK && (e.Space != space || !oneOf(e.Name, ownWords))
	}
	if good && countOf(s) && tag.Check(writeOf(s)) == api.OK {
		return api.OK
	}
	return api.ErrStanza
}

func countOf(s api.Stanza) bool {
	n := len(s.Load)
	switch {
	case s.Type == "error":
		return n == 0
	case s.Kind == 3 && s.Type == "result":
		return n <= 1
	case s.Kind == 3:
		return n == 1
	}
	return n <= 4
}

// writeOf says P9.2 by its words, of the three Kinds.
func writeOf(s api.Stanza) api.Elem {
	e := api.Elem{Space: space, Name: []string{"", "presence", "message", "iq"}[s.Kind]}
	for _, a := range []api.Attr{{Name: "from", Value: jid.Put(s.From)}, {Name: "to", Value: jid.Put(s.To)}, {Name: "id", Value: s.Id}, {Name: "type", Value: s.Type}} {
		if a.Value != "" {
			e.Attrs = append(e.Attrs, a)
		}
	}
	for _, k := range []api.Elem{{Space: space, Name: "show", Text: s.Show}, {Space: space, Name: "status", Text: s.Status}, {Space: space, Name: "body", Text: s.Body}} {
		if k.Text != "" {
			e.Kids = append(e.Kids, k)
		}
	}
	e.Kids = append(e.Kids, s.Load...)
	if s.Cond != "" {
		e.Kids = append(e.Kids, errorElem(typeOfError(s.Cond), elem(errorsSpace, s.Cond)))
	}
	return e
}

// readOf says P9.3 by its words.
func readOf(e api.Elem) (api.Stanza, api.Errno) {
	no := e.Space != space || !oneOf(e.Name, "presence message iq")
	from, fromErr := jid.Parse(tag.Attr(e, "from"))
	to, toErr := jid.Parse(tag.Attr(e, "to"))
	no = no || fromErr != api.OK || toErr != api.OK
	for _, a := range e.Attrs {
		no = no || !oneOf(a.Name, "from to id type xml:lang")
	}
	if no {
		return api.Stanza{}, api.ErrStanza
	}
	kind := slices.Index([]string{"", "presence", "message", "iq"}, e.Name)
	s := api.Stanza{Kind: kind, Type: tag.Attr(e, "type"), From: from, To: to, Id: tag.Attr(e, "id")}
	first := map[string]api.Elem{}
	for _, k := range slices.Backward(e.Kids) {
		if k.Space == space {
			first[k.Name] = k
		}
		if s.Type != "error" && (k.Space != space || !oneOf(k.Name, ownWords)) {
			s.Load = append([]api.Elem{k}, s.Load...)
		}
	}
	if kind == 1 && s.Type == "" {
		s.Show = strings.Trim(first["show"].Text, " \t\n\r")
	}
	if kind == 1 {
		s.Status = first["status"].Text
	}
	if kind == 2 {
		s.Body = first["body"].Text
	}
	if s.Type == "error" {
		s.Cond = "undefined-condition"
		for _, k := range slices.Backward(first["error"].Kids) {
			if k.Space == errorsSpace && oneOf(k.Name, condWords) {
				s.Cond = k.Name
			}
		}
	}
	if checkOf(s) != api.OK {
		return api.Stanza{}, api.ErrStanza
	}
	return s, api.OK
}

// errorOf says P9.4's first sentence by its words, resultOf the second one.
func errorOf(s api.Stanza, cond string) (api.Stanza, bool) {
	a := api.Stanza{Kind: s.Kind, Type: "error", From: s.To, To: s.From, Id: s.Id, Cond: cond}
	if s.Type == "error" || s.Kind == 3 && s.Type == "result" || checkOf(a) != api.OK {
		return api.Stanza{}, false
	}
	return a, true
}

func resultOf(s api.Stanza, load ...api.Elem) (api.Stanza, bool) {
	a := api.Stanza{Kind: s.Kind, Type: "result", From: s.To, To: s.From, Id: s.Id, Load: load}
	if s.Kind != 3 || s.Type != "get" && s.Type != "set" || checkOf(a) != api.OK {
		return api.Stanza{}, false
	}
	return a, true
}

// sameOf tells whether both are the same, where nil and an empty list are so.
func sameOf(a, b api.Stanza) bool {
	if len(a.Load) != len(b.Load) {
		return false
	}
	for i := range a.Load {
		if !tag.Same(a.Load[i], b.Load[i]) {
			return false
		}
	}
	a.Load, b.Load = nil, nil
	return reflect.DeepEqual(a, b)
}

var (
	ann = api.Jid{Node: "a", Domain: "b", Resource: "c"}
	bob = api.Jid{Domain: "d"}
	cat = api.Jid{Node: "e", Domain: "f", Resource: "G"}
)

func elem(space, name string, kids ...api.Elem) api.Elem {
	return api.Elem{Space: space, Name: name, Kids: kids}
}

func text(space, name, text string) api.Elem {
	return api.Elem{Space: space, Name: name, Text: text}
}

func errorElem(kind string, kids ...api.Elem) api.Elem {
	return api.Elem{Space: space, Name: "error", Attrs: []api.Attr{{Name: "type", Value: kind}}, Kids: kids}
}

// plain is a stanza that may be, of a Kind and a Type that there are.
func plain(kind int, typ string) api.Stanza {
	s := api.Stanza{Kind: kind, Type: typ, From: ann, To: bob, Id: "1"}
	if typ == "get" || typ == "set" {
		s.Load = []api.Elem{elem("q", "query")}
	}
	if typ == "error" {
		s.Cond = "conflict"
	}
	return s
}

// everyPlain calls look with a stanza of each Kind and Type.
func everyPlain(look func(s api.Stanza)) {
	for kind := 1; kind <= 3; kind++ {
		for _, typ := range strings.Split(typeWords[kind], " ") {
			look(plain(kind, typ))
		}
	}
}

// everyStanza calls look with stanzas of each Kind, good ones and bad ones: all that come of few values a field.
func everyStanza(look func(s api.Stanza)) {
	q := elem("q", "query")
	loads := [][]api.Elem{nil, {q}, {elem(space, "x")}, {text(space, "body", "b")}, {elem("q", "1")}, {q, text("r", "status", "<")}, {q, q, q, q}, {q, q, q, q, q}, {q, q, q, elem(space, "error")}}
	types := strings.Split(typeWords[1]+" "+strings.TrimSpace(typeWords[2])+" "+typeWords[3]+" Error", " ")
	slices.Sort(types)
	for _, typ := range slices.Compact(types) {
		for _, show := range []string{"", "away", "x"} {
			for _, status := range []string{"", " s", "\x00"} {
				for _, body := range []string{"", "b\n", "\xff"} {
					for _, cond := range []string{"", "forbidden", "gone"} {
						for _, load := range loads {
							for at := range 6 {
								look(api.Stanza{Kind: at%3 + 1, Type: typ, From: ann, To: cat, Id: []string{"", "1"}[at/3], Show: show, Status: status, Body: body, Cond: cond, Load: load})
							}
						}
					}
				}
			}
		}
	}
}

// cut keeps what is told of a failure short.
func cut(x any) string {
	s := fmt.Sprintf("%+v", x)
	return s[:min(len(s), 600)]
}

func lookAtCheck(t *testing.T, s api.Stanza, may bool) {
	t.Helper()
	want := api.ErrStanza
	if may {
		want = api.OK
	}
	if got := Check(s); got != want {
		t.Fatalf("Check(%s): %d, not %d", cut(s), got, want)
	}
	if got := checkOf(s); got != want {
		t.Fatalf("by the words %s: %d, not %d", cut(s), got, want)
	}
}

func lookAtRead(t *testing.T, e api.Elem, want api.Stanza, err api.Errno) {
	t.Helper()
	got, no := Read(e)
	if no != err || !sameOf(got, want) || err != api.OK && !reflect.DeepEqual(got, api.Stanza{}) {
		t.Fatalf("Read(%s): %s, %d, not %s, %d", cut(e), cut(got), no, cut(want), err)
	}
}

func lookAtAnswer(t *testing.T, s, got, want api.Stanza, ok, may bool) {
	t.Helper()
	if ok != may || !sameOf(got, want) || !ok && !reflect.DeepEqual(got, api.Stanza{}) {
		t.Fatalf("answer to %s: %s, %v, not %s, %v", cut(s), cut(got), ok, cut(want), may)
	}
}
