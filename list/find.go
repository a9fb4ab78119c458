package list

import (
	"strings"

	"wharf/api"
)

// Buddy answers the buddy of the Same name, and whether there is one (P17.3).
func Buddy(l api.List, name string) (api.Item, bool) {
	return called(l, titleOf(api.Item{Type: api.ItemBuddy, Name: name}))
}

// Group answers the group of that Name, and whether there is one (P17.3).
func Group(l api.List, name string) (api.Item, bool) {
	return called(l, titleOf(api.Item{Type: api.ItemGroup, Name: name}))
}

func called(l api.List, wanted title) (api.Item, bool) {
	for _, it := range l.Items {
		if titleOf(it) == wanted {
			return twin(it), true
		}
	}
	return api.Item{}, false
}

// Place answers the least Id that no buddy of that Group has (P17.3).
func Place(l api.List, group int) int {
	taken := map[int]struct{}{}
	for _, it := range l.Items {
		if it.Type == api.ItemBuddy && it.Group == group {
			taken[it.Id] = struct{}{}
		}
	}
	return free(taken)
}

// Room answers the least Group of which there is no group (P17.3).
func Room(l api.List) int {
	taken := map[int]struct{}{}
	for _, it := range l.Items {
		if it.Type == api.ItemGroup {
			taken[it.Group] = struct{}{}
		}
	}
	return free(taken)
}

// free answers the least number from 1 on that is not taken.
func free(taken map[int]struct{}) int {
	for n := 1; ; n++ {
		if _, ok := taken[n]; !ok {
			return n
		}
	}
}

// Title answers the Name of the group with that Group; "", if there is none (P17.3).
func Title(l api.List, group int) string {
	for _, it := range l.Items {
		if it.Type == api.ItemGroup && it.Group == group {
			return strings.Clone(it.Name)
		}
	}
	return ""
}
