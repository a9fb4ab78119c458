package list

import (
	"cmp"
	"slices"
	"strings"

	"wharf/api"
)

// place is where an item lies in a list: a group ahead of its buddies.
type place struct{ group, id int }

func placeOf(it api.Item) place {
	return place{it.Group, it.Id}
}

// compare answers a number below 0, if p lies ahead of q, one above 0, if it lies behind it, and 0, if both are one.
func (p place) compare(q place) int {
	return cmp.Or(cmp.Compare(p.group, q.group), cmp.Compare(p.id, q.id))
}

// by answers how items compare whose places compare so.
func by(compare func(p, q place) int) func(a, b api.Item) int {
	return func(a, b api.Item) int {
		return compare(placeOf(a), placeOf(b))
	}
}

// rise tells whether each of these items is above the one ahead of it.
func rise(compare func(a, b api.Item) int, items ...api.Item) bool {
	for i := range items {
		if i > 0 && compare(items[i-1], items[i]) >= 0 {
			return false
		}
	}
	return true
}

// twins answers items that are the same as these, and share nothing with them.
func twins(items []api.Item) []api.Item {
	out := slices.Clone(items)
	for i, it := range items {
		out[i] = twin(it)
	}
	return out
}

func twin(it api.Item) api.Item {
	it.Name, it.Alias = strings.Clone(it.Name), strings.Clone(it.Alias)
	return it
}
