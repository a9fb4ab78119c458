package legacy

import (
	"wharf/api"
	"wharf/tlv"
)

// hello is what a connection begins with.
const (
	hello     = "\x00\x00\x00\x01"
	helloSize = len(hello)
)

// The Types of values, each in the notes that have it.
const (
	typeName   = 0x1
	typeText   = 0x2
	typeIdle   = 0x4
	typeCookie = 0x6
	typeStatus = 0x6
	typeWhyNot = 0x8
	typeBye    = 0x9
	typeSalted = 0x25
	typeAwait  = 0x66
	typeAlias  = 0x131
)

// writer has the bytes that were written so far. What is handed to it was checked, so that nothing is too great for
// its width.
type writer struct{ bytes []byte }

func (w *writer) put(s string) {
	w.bytes = append(w.bytes, s...)
}

func (w *writer) number(n int64, width int) {
	s, _ := tlv.Int(n, width)
	w.put(s)
}

func (w *writer) text(s string, width int) {
	b, _ := tlv.Text(s, width)
	w.put(b)
}

func (w *writer) value(kind int, s string) {
	b, _ := tlv.Put(api.Tlv{Type: kind, Value: s})
	w.put(b)
}

func (w *writer) numberValue(kind int, n int64, width int) {
	s, _ := tlv.Int(n, width)
	w.value(kind, s)
}

// noteWriter writes one note.
type noteWriter struct {
	writer
	note api.Note
}

// write answers the bytes of n, which may be: of channel 2 those within the snac (P14.1).
func write(n api.Note) string {
	w := noteWriter{note: n}
	w.fields()
	return string(w.bytes)
}

func (w *noteWriter) fields() {
	n := w.note
	switch n.Kind {
	case api.LgHello:
		w.put(hello)
	case api.LgCookie:
		w.put(hello)
		w.value(typeCookie, n.Data)
	case api.LgBye:
		w.bye()
	case api.LgAskKey:
		w.value(typeName, n.Name)
	case api.LgKey:
		w.text(n.Data, 2)
	case api.LgLogin:
		w.value(typeName, n.Name)
		w.value(typeSalted, n.Data)
	case api.LgLet:
		w.let()
	case api.LgStatus:
		w.numberValue(typeStatus, int64(n.Status), 4)
	case api.LgIdle:
		w.number(n.Idle, 4)
	case api.LgOnline:
		w.text(n.Name, 1)
		w.numberValue(typeStatus, int64(n.Status), 4)
		w.numberValue(typeIdle, n.Idle, 2)
	case api.LgOffline:
		w.text(n.Name, 1)
	case api.LgSend, api.LgText:
		w.put(n.Data)
		w.text(n.Name, 1)
		w.value(typeText, n.Text)
	case api.LgAskList, api.LgSame:
		w.number(n.Time, 4)
		w.number(int64(n.Code), 2)
	case api.LgList:
		w.number(int64(len(n.Items)), 2)
		w.items()
		w.number(n.Time, 4)
	case api.LgAdd, api.LgSet, api.LgDel:
		w.items()
	case api.LgAck:
		w.codes()
	case api.LgAskAuth, api.LgWants:
		w.text(n.Name, 1)
		w.text(n.Text, 2)
	case api.LgGrant, api.LgGrants:
		w.grant()
	}
}

func (w *noteWriter) bye() {
	if w.note.Code != 0 {
		w.numberValue(typeBye, int64(w.note.Code), 2)
	}
}

func (w *noteWriter) let() {
	w.value(typeName, w.note.Name)
	if w.note.Data != "" {
		w.value(typeCookie, w.note.Data)
	} else {
		w.numberValue(typeWhyNot, int64(w.note.Code), 2)
	}
}

func (w *noteWriter) grant() {
	w.text(w.note.Name, 1)
	if w.note.Ok {
		w.number(1, 1)
	} else {
		w.number(0, 1)
	}
	w.text(w.note.Text, 2)
}

func (w *noteWriter) codes() {
	for _, c := range w.note.Codes {
		w.number(int64(c), 2)
	}
}

func (w *noteWriter) items() {
	for _, it := range w.note.Items {
		w.text(it.Name, 2)
		w.number(int64(it.Group), 2)
		w.number(int64(it.Id), 2)
		w.number(int64(it.Type), 2)
		w.text(marksOf(it), 2)
	}
}

// marksOf answers the values behind an item's numbers: each stands there only if it says something.
func marksOf(it api.Item) string {
	var w writer
	if it.Alias != "" {
		w.value(typeAlias, it.Alias)
	}
	if it.Await {
		w.value(typeAwait, "")
	}
	return string(w.bytes)
}
