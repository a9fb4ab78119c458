package list

import (
	"slices"

	"wharf/api"
	"wharf/legacy"
)

// Apply answers l with that change, or as it is, and the code with which a server acknowledges it (P17.2).
func Apply(l api.List, kind int, x api.Item) (api.List, int) {
	l.Items = twins(l.Items)
	at, there := slices.BinarySearchFunc(l.Items, x, by(place.compare))
	code := codeOf(l.Items, kind, x, at, there)
	if code != api.AckOk {
		return l, code
	}
	switch kind {
	case api.LgAdd:
		l.Items = slices.Insert(l.Items, at, twin(x))
	case api.LgSet:
		l.Items[at] = twin(x)
	case api.LgDel:
		l.Items = slices.Delete(l.Items, at, at+1)
	}
	return l, code
}

// codeOf answers how the change goes. at is where an item with x's place would lie, and there, whether one does. Of one
// that is taken away nothing but its place is asked of x: what else is known of it stands in the list.
func codeOf(items []api.Item, kind int, x api.Item, at int, there bool) int {
	add, set, del := kind == api.LgAdd, kind == api.LgSet, kind == api.LgDel
	switch {
	case !add && !set && !del, !del && !mayBe(items, x):
		return api.AckBad
	case !add && !there:
		return api.AckNone
	case add && there:
		return api.AckThere
	case del && items[at].Type == api.ItemGroup && has(items, api.ItemBuddy, x.Group),
		set && items[at].Type != x.Type:
		return api.AckBad
	case add && len(items) >= api.MaxItems:
		return api.AckMany
	case !del && isTaken(items, x):
		return api.AckThere
	}
	return api.AckOk
}

// mayBe tells whether x may be a group or a buddy among these items, wherever it lies and whoever else is called so.
func mayBe(items []api.Item, x api.Item) bool {
	return legacy.Check(api.Note{Kind: api.LgAdd, Items: []api.Item{x}}) == api.OK &&
		(isGroup(x) || isBuddy(items, x))
}

// isTaken tells whether an item at another place has the title of x.
func isTaken(items []api.Item, x api.Item) bool {
	wanted := titleOf(x)
	return slices.ContainsFunc(items, func(it api.Item) bool {
		return placeOf(it) != placeOf(x) && titleOf(it) == wanted
	})
}
