package legacy

import (
	"strings"

	"wharf/api"
	"wharf/tlv"
)

// reader has the bytes that are still to be read. Where they end too early, or are others than they should be, it
// answers less, and goes on: Parse sees by writing it anew that what was read is not what stood there.
type reader struct{ left string }

// take answers the next n bytes, or what is left. The copy keeps what is read apart from the bytes that were handed in.
func (r *reader) take(n int) string {
	n = min(n, len(r.left))
	s := r.left[:n]
	r.left = r.left[n:]
	return strings.Clone(s)
}

func (r *reader) number(width int) int64 {
	n, _ := tlv.Num(r.take(width))
	return n
}

// short is a number of two bytes.
func (r *reader) short() int {
	return int(r.number(2))
}

func (r *reader) text(width int) string {
	return r.take(int(r.number(width)))
}

// value takes the Value that is next, if it is of that Type; else nothing is taken, and false is the answer.
func (r *reader) value(kind int) (string, bool) {
	head, _ := tlv.Int(int64(kind), 2)
	if !strings.HasPrefix(r.left, head) {
		return "", false
	}
	r.take(len(head))
	return r.text(2), true
}

// valueText is value for those of which there is no difference between none and an empty one.
func (r *reader) valueText(kind int) string {
	s, _ := r.value(kind)
	return s
}

func (r *reader) valueNumber(kind int) int64 {
	n, _ := tlv.Num(r.valueText(kind))
	return n
}

// noteReader reads one note.
type noteReader struct {
	reader
	note api.Note
}

// read answers the note of that Kind whose bytes these are; any one, if there is none.
func read(kind int, b string) api.Note {
	r := noteReader{reader{b}, api.Note{Kind: kind}}
	r.fields()
	return r.note
}

func (r *noteReader) fields() {
	n := &r.note
	switch n.Kind {
	case api.LgCookie:
		r.take(helloSize)
		n.Data = r.valueText(typeCookie)
	case api.LgBye:
		n.Code = int(r.valueNumber(typeBye))
	case api.LgAskKey:
		n.Name = r.valueText(typeName)
	case api.LgKey:
		n.Data = r.text(2)
	case api.LgLogin:
		n.Name = r.valueText(typeName)
		n.Data = r.valueText(typeSalted)
	case api.LgLet:
		n.Name = r.valueText(typeName)
		n.Data = r.valueText(typeCookie)
		n.Code = int(r.valueNumber(typeWhyNot))
	case api.LgStatus:
		n.Status = int(r.valueNumber(typeStatus))
	case api.LgIdle:
		n.Idle = r.number(4)
	case api.LgOnline:
		n.Name = r.text(1)
		n.Status = int(r.valueNumber(typeStatus))
		n.Idle = r.valueNumber(typeIdle)
	case api.LgOffline:
		n.Name = r.text(1)
	case api.LgSend, api.LgText:
		n.Data = r.take(cookieSize)
		n.Name = r.text(1)
		n.Text = r.valueText(typeText)
	case api.LgAskList, api.LgSame:
		n.Time = r.number(4)
		n.Code = r.short()
	case api.LgList:
		r.items(r.short())
		n.Time = r.number(4)
	case api.LgAdd, api.LgSet, api.LgDel:
		r.items(api.MaxItems)
	case api.LgAck:
		r.codes()
	case api.LgAskAuth, api.LgWants:
		n.Name = r.text(1)
		n.Text = r.text(2)
	case api.LgGrant, api.LgGrants:
		n.Name = r.text(1)
		n.Ok = r.number(1) != 0
		n.Text = r.text(2)
	}
}

func (r *noteReader) codes() {
	for r.left != "" {
		r.note.Codes = append(r.note.Codes, r.short())
	}
}

// items reads all that there are, but no more than most.
func (r *noteReader) items(most int) {
	for r.left != "" && len(r.note.Items) < most {
		it := api.Item{Name: r.text(2), Group: r.short(), Id: r.short(), Type: r.short()}
		marks := reader{r.text(2)}
		it.Alias = marks.valueText(typeAlias)
		_, it.Await = marks.value(typeAwait)
		r.note.Items = append(r.note.Items, it)
	}
}
