package ssi

import (
	"cmp"

	"wharf/api"
	"wharf/list"
)

// nothing is the kind of a change that is none.
const nothing = 0

// change is what a wish comes to: the kind and the items of what is said of it; or nothing, and how the wish went.
type change struct {
	kind  int
	items []api.Item
	code  int
}

// comesTo answers what w comes to with that list (P18.3).
func comesTo(l api.List, w api.Wish) change {
	it, there := list.Buddy(l, w.Name)
	switch {
	case w.Kind == api.WiAdd && !there:
		return added(l, w)
	case !there:
		return change{code: api.AckNone}
	case w.Kind == api.WiAdd && it.Await:
		return change{code: api.AckAuth}
	case w.Kind == api.WiDel:
		return change{kind: api.LgDel, items: []api.Item{it}}
	case w.Kind == api.WiAdd, it.Alias == w.Alias:
		return change{code: api.AckOk}
	}
	it.Alias = w.Alias
	return change{kind: api.LgSet, items: []api.Item{it}}
}

// added answers the change that adds a buddy, behind a group of that name, if there is none yet.
func added(l api.List, w api.Wish) change {
	title := cmp.Or(w.Group, api.Buddies)
	b := api.Item{Type: api.ItemBuddy, Name: w.Name, Alias: w.Alias, Await: w.Await}
	var items []api.Item
	if g, there := list.Group(l, title); there {
		b.Group, b.Id = g.Group, list.Place(l, g.Group)
	} else {
		b.Group, b.Id = list.Room(l), 1
		items = append(items, api.Item{Type: api.ItemGroup, Group: b.Group, Name: title})
	}
	items = append(items, b)
	if len(l.Items)+len(items) > api.MaxItems {
		return change{code: api.AckMany}
	}
	return change{kind: api.LgAdd, items: items}
}
