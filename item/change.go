package item

import (
	"slices"
	"strings"

	"cambium/api"
)

// lastOfEach has, by key, of each key the change that is done last: it undoes the ones ahead of it.
func lastOfEach(changes []api.Change) []api.Change {
	sorted := append([]api.Change(nil), changes...)
	slices.SortStableFunc(sorted, func(a, b api.Change) int {
		return strings.Compare(a.Key, b.Key)
	})
	var out []api.Change
	for i, c := range sorted {
		if i+1 == len(sorted) || sorted[i+1].Key != c.Key {
			out = append(out, c)
		}
	}
	return out
}

// changed is a list with changes done that rise by key, none twice.
func changed(l []api.Item, changes []api.Change) []api.Item {
	var out []api.Item
	for _, c := range changes {
		at, found := place(l, c.Key)
		out = append(out, l[:at]...)
		l = l[at:]
		if found {
			l = l[1:]
		}
		if c.Has {
			out = append(out, api.Item{Key: c.Key, Val: c.Val})
		}
	}
	return append(out, l...)
}

// apart holds two lists against each other: what it answers makes the second one of the first.
func apart(a, b []api.Item) []api.Change {
	var out []api.Change
	i, j := 0, 0
lists:
	for {
		switch {
		case i == len(a) && j == len(b):
			break lists
		case j == len(b) || i < len(a) && a[i].Key < b[j].Key:
			out = append(out, api.Change{Key: a[i].Key})
			i++
			continue lists
		case i == len(a) || b[j].Key < a[i].Key:
			out = append(out, there(b[j]))
			j++
			continue lists
		}
		if a[i] != b[j] {
			out = append(out, there(b[j]))
		}
		i++
		j++
	}
	return out
}

// there is the change behind which an item is there.
func there(x api.Item) api.Change {
	return api.Change{Key: x.Key, Has: true, Val: x.Val}
}
