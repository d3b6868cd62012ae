package grow

import (
	"cambium/api"
	"cambium/node"
	"cambium/pack"
)

const (
	space      = api.BlockSize - 4 // bytes of a node, at most
	maxEntries = 255               // of a node
	fewest     = 2                 // entries of a node that ends because of its last one's sum
	oneIn      = 4                 // as many entries have one with such a sum, about
)

// putter puts a node, and tells where it is.
type putter = func(api.Node) (api.Kid, api.Errno)

// grown puts the tree of items, level by level, and tells its root; of no items a zero one.
func grown(l []api.Item, put putter) (api.Kid, api.Errno) {
	kids, why := cut(l, 0, leaf, itemKey, put)
	for level := 1; len(kids) > 1; level++ {
		kids, why = cut(kids, level, branch, kidKey, put)
	}
	if why != api.OK || len(kids) == 0 {
		return api.Kid{}, why
	}
	root := kids[0]
	root.Key = ""
	return root, api.OK
}

// cut makes nodes of a level's entries, puts them, and tells the entries of the level above.
func cut[E api.Item | api.Kid](entries []E, level int, made func([]E) api.Node, key func(E) string, put putter) ([]api.Kid, api.Errno) {
	var kids []api.Kid
	first := 0
entries:
	for i, last := range entries {
		end := i + 1
		switch {
		case end == len(entries):
		case end-first == maxEntries || node.Size(made(entries[first:end+1])) > space:
		case end-first >= fewest && marked(key(last), level):
		default:
			continue entries
		}
		kid, why := put(made(entries[first:end]))
		if why != api.OK {
			return nil, why
		}
		kid.Key = key(entries[first])
		kids = append(kids, kid)
		first = end
	}
	return kids, api.OK
}

// marked tells if a node may end behind the entry of a key: it hangs on nothing else, so that a change is not seen far behind it.
func marked(key string, level int) bool {
	return pack.Sum(key+string([]byte{byte(level)}))%oneIn == 0
}

func leaf(l []api.Item) api.Node { return api.Node{Kind: api.NodeLeaf, Items: l} }

func branch(l []api.Kid) api.Node { return api.Node{Kind: api.NodeBranch, Kids: l} }

func itemKey(x api.Item) string { return x.Key }

func kidKey(k api.Kid) string { return k.Key }
