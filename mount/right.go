package mount

import (
	"cmp"
	"slices"

	"cambium/api"
	"cambium/dev"
	"cambium/heap"
	"cambium/node"
	"cambium/super"
)

const (
	slots    = 2 // blocks in which superblocks stand
	firstNum = 2 // the least block that is none of them
)

// right tells if a store is as the chapter says.
func right(s api.Store) bool {
	if dev.Check(s.Dev) != api.OK || heap.Check(s.Heap) != api.OK || s.Heap.Size != s.Dev.Size {
		return false
	}
	return rightSlots(s) && s.Table.Key == "" && isTable(s.Table, cellReader(s.Heap.Cells)) && rightRefs(s)
}

func rightSlots(s api.Store) bool {
	read := cellReader(s.Heap.Cells)
	valid := 0
	for slot, x := range s.Slots {
		switch {
		case s.Valid[slot]:
			valid++
			if super.Check(x) != api.OK || super.Slot(x) != slot || x.Size != s.Dev.Size || !isTable(tableOf(x), read) {
				return false
			}
		case x != api.Super{}:
			return false
		}
	}
	return valid > 0
}

// rightRefs tells if each cell has just as many Refs as lead to it, and hold it.
func rightRefs(s api.Store) bool {
	refs := refsIn(s)
	for _, c := range s.Heap.Cells {
		if c.Refs == 0 || c.Refs != refs[c.Num] {
			return false
		}
	}
	return true
}

// refsIn is how many lead to each of a store's cells: cells, superblocks, and the store itself to its Table.
func refsIn(s api.Store) map[uint32]int {
	refs := map[uint32]int{s.Table.Num: 1}
	for slot, x := range s.Slots {
		if s.Valid[slot] {
			refs[x.Table]++
		}
	}
	for _, c := range s.Heap.Cells {
		// The heap is right, so that each cell has a node.
		n, _ := node.Decode(c.Data)
		for _, num := range node.Kids(n) {
			refs[num]++
		}
	}
	return refs
}

// cellReader tells the data of cells, which rise by Num.
func cellReader(cells []api.Cell) reader {
	return func(num uint32) (string, api.Errno) {
		at, found := slices.BinarySearchFunc(cells, num, func(c api.Cell, num uint32) int {
			return cmp.Compare(c.Num, num)
		})
		if !found {
			return "", api.ErrNone
		}
		return cells[at].Data, api.OK
	}
}
