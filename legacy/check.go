package legacy

import (
	"slices"

	"wharf/api"
	"wharf/glyph"
	"wharf/handle"
)

const (
	maxData    = 256 // bytes of a cookie that brings one in
	maxKey     = 64  // bytes of a key
	saltedSize = 16  // bytes of a password that was salted
	cookieSize = 8   // bytes of the cookie of a message
	maxLabel   = 64  // bytes of an Alias, and of a group's Name

	maxShort = 1<<16 - 1 // two bytes
	maxLong  = 1<<32 - 1 // four bytes
)

// bounds are how much the fields of a note may be, or how long. Of a field that a Kind has not, the bound is 0, which
// leaves it nothing but the zero value.
type bounds struct {
	name               bool // there is one, which must be a name
	text               int
	fewestData, data   int
	code, status       int
	idle, time         int64
	ok                 bool // it may be set
	fewestItems, items int
	fewestCodes, codes int
}

// boundsOf answers the bounds of a Kind; false, if there is no such Kind (P14.1).
func boundsOf(kind int) (bounds, bool) {
	switch kind {
	case api.LgHello, api.LgAlive, api.LgHost, api.LgReady, api.LgBegin, api.LgEnd:
		return bounds{}, true
	case api.LgCookie:
		return bounds{fewestData: 1, data: maxData}, true
	case api.LgBye:
		return bounds{code: maxShort}, true
	case api.LgAskKey, api.LgOffline:
		return bounds{name: true}, true
	case api.LgKey:
		return bounds{fewestData: 1, data: maxKey}, true
	case api.LgLogin:
		return bounds{name: true, fewestData: saltedSize, data: saltedSize}, true
	case api.LgLet:
		return bounds{name: true, data: maxData, code: maxShort}, true
	case api.LgStatus:
		return bounds{status: maxShort}, true
	case api.LgIdle:
		return bounds{idle: maxLong}, true
	case api.LgOnline:
		return bounds{name: true, status: maxShort, idle: maxShort}, true
	case api.LgSend, api.LgText:
		return bounds{name: true, text: api.MaxNote, fewestData: cookieSize, data: cookieSize}, true
	case api.LgAskList, api.LgSame:
		return bounds{time: maxLong, code: maxShort}, true
	case api.LgList:
		return bounds{items: api.MaxItems, time: maxLong}, true
	case api.LgAdd, api.LgSet, api.LgDel:
		return bounds{fewestItems: 1, items: api.MaxItems}, true
	case api.LgAck:
		return bounds{fewestCodes: 1, codes: api.MaxItems}, true
	case api.LgAskAuth, api.LgWants:
		return bounds{name: true, text: api.MaxNote}, true
	case api.LgGrant, api.LgGrants:
		return bounds{name: true, ok: true, text: api.MaxNote}, true
	}
	return bounds{}, false
}

// Check tells whether n may be (P14.1).
func Check(n api.Note) api.Errno {
	b, ok := boundsOf(n.Kind)
	if !ok || !b.hold(n) || n.Kind == api.LgLet && !isLet(n) {
		return api.ErrLegacy
	}
	return api.OK
}

// hold asks how long lists and texts are ahead of what is in them: those that are far too long are not gone through.
func (b bounds) hold(n api.Note) bool {
	return isName(n.Name, b.name) && isText(n.Text, b.text) &&
		isIn(len(n.Data), b.fewestData, b.data) &&
		isIn(n.Code, 0, b.code) && isIn(n.Status, 0, b.status) &&
		isIn(n.Idle, 0, b.idle) && isIn(n.Time, 0, b.time) &&
		(b.ok || !n.Ok) &&
		isIn(len(n.Items), b.fewestItems, b.items) && areItems(n.Items) &&
		isIn(len(n.Codes), b.fewestCodes, b.codes) && areShort(n.Codes)
}

// isLet tells whether a LgLet lets one in, or says why not: never both, and never neither.
func isLet(n api.Note) bool {
	return (n.Data != "") != (n.Code != 0)
}

func isIn[N int | int64](n, least, most N) bool {
	return least <= n && n <= most
}

// isName asks for a name where there is one, and for none where there is not.
func isName(s string, wanted bool) bool {
	if !wanted {
		return s == ""
	}
	return handle.Check(s) == api.OK
}

func isText(s string, most int) bool {
	return len(s) <= most && glyph.Check(s) == api.OK
}

func areShort(codes []int) bool {
	for _, c := range codes {
		if !isIn(c, 0, maxShort) {
			return false
		}
	}
	return true
}

func areItems(items []api.Item) bool {
	for _, it := range items {
		if !isItem(it) {
			return false
		}
	}
	return true
}

func isItem(it api.Item) bool {
	if !isIn(it.Group, 0, maxShort) || !isIn(it.Id, 0, maxShort) {
		return false
	}
	switch it.Type {
	case api.ItemBuddy:
		return isName(it.Name, true) && isText(it.Alias, maxLabel)
	case api.ItemGroup:
		return isText(it.Name, maxLabel) && it.Alias == "" && !it.Await
	}
	return false
}

// Same tells whether a and b are the same, list by list (P14.1).
func Same(a, b api.Note) bool {
	return slices.Equal(a.Items, b.Items) && slices.Equal(a.Codes, b.Codes) &&
		a.Kind == b.Kind && a.Name == b.Name && a.Text == b.Text && a.Data == b.Data &&
		a.Code == b.Code && a.Status == b.Status && a.Idle == b.Idle && a.Time == b.Time && a.Ok == b.Ok
}
