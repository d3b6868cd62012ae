package item

import "cambium/api"

func rightList(l []api.Item) bool {
	for i, x := range l {
		if !rightKey(x.Key) || len(x.Val) > api.MaxVal {
			return false
		}
		if i > 0 && x.Key <= l[i-1].Key {
			return false
		}
	}
	return true
}

func rightChanges(changes []api.Change) bool {
	for _, c := range changes {
		if !rightKey(c.Key) || len(c.Val) > api.MaxVal {
			return false
		}
		if !c.Has && c.Val != "" {
			return false
		}
	}
	return true
}

func rightKey(key string) bool {
	return key != "" && len(key) <= api.MaxKey
}
