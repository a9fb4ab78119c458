package payload

import (
	"wharf/api"
	"wharf/jid"
	"wharf/tag"
)

const (
	roster = "x"
	item   = "item"
	group  = "group"
)

// Roster answers the element that hands l over, whether its entries may be or not (P10.4).
func Roster(l []api.Entry) api.Elem {
	e := tag.New(api.SpRosterx, roster)
	for _, n := range l {
		e = with(e, itemOf(n))
	}
	return e
}

// itemOf answers the item of an entry. What is empty tag.New leaves out.
func itemOf(n api.Entry) api.Elem {
	e := tag.New(api.SpRosterx, item, "action", action(n.Act), "jid", jid.Put(n.Jid), "name", n.Name)
	if n.Group == "" {
		return e
	}
	return with(e, leaf(group, n.Group))
}

// Entries answers the entries that e hands over: all of them, or none, if one of them may not be (P10.4).
func Entries(e api.Elem) ([]api.Entry, api.Errno) {
	if !is(e, api.SpRosterx, roster) {
		return nil, api.ErrLoad
	}
	var l []api.Entry
	for _, k := range e.Kids {
		if !is(k, e.Space, item) {
			continue
		}
		n, ok := entryOf(k)
		if !ok {
			return nil, api.ErrLoad
		}
		l = append(l, n)
	}
	return l, api.OK
}

// entryOf answers the entry of an item, and whether it may be.
func entryOf(e api.Elem) (api.Entry, bool) {
	j, err := jid.Parse(tag.Attr(e, "jid"))
	act, ok := actOf(tag.Attr(e, "action"))
	if err != api.OK || !ok {
		return api.Entry{}, false
	}
	return api.Entry{Act: act, Jid: j, Name: tag.Attr(e, "name"), Group: text(e, group)}, true
}

// action answers "" of an Act that is none.
func action(act int) string {
	switch act {
	case api.ActAdd:
		return "add"
	case api.ActDelete:
		return "delete"
	case api.ActModify:
		return "modify"
	}
	return ""
}

// actOf answers the Act of an action, and whether it is one. What an item does not tell is to be added; an action that
// is empty tells nothing, as tag.Attr has it.
func actOf(s string) (int, bool) {
	switch s {
	case "", "add":
		return api.ActAdd, true
	case "delete":
		return api.ActDelete, true
	case "modify":
		return api.ActModify, true
	}
	return 0, false
}
