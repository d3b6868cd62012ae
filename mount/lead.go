package mount

import (
	"sync"

	"cambium/api"
	"cambium/hash"
	"cambium/node"
)

// reader tells the data of a block, as dev.Reader does.
type reader = func(num uint32) (string, api.Errno)

// leader is a superblock that tells its blocks.
type leader struct {
	api.Super
	blocks func() (map[uint32]block, bool) // false, if they are not all there
}

// block is one of a superblock's, as it was found.
type block struct {
	data string
	hash [32]byte
}

// lead looks for a superblock's blocks when it is first asked for them, and not again.
func lead(s api.Super, read reader) leader {
	var (
		once  sync.Once
		found map[uint32]block
		whole bool
	)
	return leader{s, func() (map[uint32]block, bool) {
		once.Do(func() { found, whole = search(tableOf(s), read) })
		return found, whole
	}}
}

// leadsTo tells if a block is one of a superblock's.
func (l leader) leadsTo(num uint32) bool {
	found, _ := l.blocks()
	_, there := found[num]
	return there
}

// tableOf is how a superblock names its table.
func tableOf(s api.Super) api.Kid {
	return api.Kid{Num: s.Table, Hash: s.Hash}
}

// search finds a table, and all below it; false, if that is not all there.
func search(table api.Kid, read reader) (map[uint32]block, bool) {
	if !isTable(table, read) {
		return nil, false
	}
	found := map[uint32]block{}
	// A list of what is named, as there may be as many levels as blocks.
	waiting := []api.Kid{table}
	for len(waiting) > 0 {
		last := len(waiting) - 1
		named := waiting[last]
		waiting = waiting[:last]
		b, known := found[named.Num]
		if !known {
			n, data, ok := readNode(named, read)
			if !ok {
				return nil, false
			}
			b = block{data, named.Hash}
			found[named.Num] = b
			waiting = append(waiting, node.Named(n)...)
		}
		if b.hash != named.Hash {
			return nil, false
		}
	}
	return found, true
}

func isTable(named api.Kid, read reader) bool {
	n, _, ok := readNode(named, read)
	return ok && n.Kind == api.NodeTable
}

// readNode reads a block that is named; false, if it is not there, or not what it is named.
func readNode(named api.Kid, read reader) (api.Node, string, bool) {
	data, why := read(named.Num)
	if why != api.OK || hash.Sum(data) != named.Hash {
		return api.Node{}, "", false
	}
	n, why := node.Decode(data)
	return n, data, why == api.OK
}
