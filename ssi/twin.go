package ssi

import (
	"slices"
	"strings"

	"wharf/api"
)

// twin answers one that is the same as s, and shares nothing with it, spare room neither.
func twin(s api.Ssi) api.Ssi {
	s.List, s.Items, s.Wish = twinList(s.List), twins(s.Items), twinWish(s.Wish)
	s.Wishes = slices.Clone(s.Wishes)
	for i, w := range s.Wishes {
		s.Wishes[i] = twinWish(w)
	}
	return s
}

func twinList(l api.List) api.List {
	l.Items = twins(l.Items)
	return l
}

func twins(items []api.Item) []api.Item {
	items = slices.Clone(items)
	for i := range items {
		it := &items[i]
		it.Name, it.Alias = strings.Clone(it.Name), strings.Clone(it.Alias)
	}
	return items
}

func twinWish(w api.Wish) api.Wish {
	w.Name, w.Alias, w.Group = strings.Clone(w.Name), strings.Clone(w.Alias), strings.Clone(w.Group)
	return w
}
