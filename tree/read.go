package tree

import (
	"cmp"
	"slices"

	"cambium/api"
	"cambium/heap"
	"cambium/node"
)

const nothing = 0 // the root of the tree of nothing

// reader reads a tree, and holds what it has read.
type reader struct {
	cells []api.Cell
	read  map[uint32]span // of each block that was read, what is below it
	items []api.Item      // of the leaves that were read, in order
}

// span is what a right tree has: from which key to which, in how many levels.
type span struct {
	first, last string
	levels      int
}

// readTree reads a whole tree of a heap, if both are right.
func readTree(h api.Heap, root uint32) (*reader, api.Errno) {
	if why := heap.Check(h); why != api.OK {
		return nil, why
	}
	return readCells(h.Cells, root)
}

// readCells reads a whole tree of a right heap's cells, if it is right: no part of it alone tells that.
func readCells(cells []api.Cell, root uint32) (*reader, api.Errno) {
	r := &reader{cells: cells, read: map[uint32]span{}}
	if root == nothing {
		return r, api.OK
	}
	if _, there := r.find(root); !there {
		return nil, api.ErrNone
	}
	if _, ok := r.below(root); !ok {
		return nil, api.ErrBad
	}
	return r, api.OK
}

// below is what the tree of a block has; false, if that is not right.
func (r *reader) below(num uint32) (span, bool) {
	if s, known := r.read[num]; known {
		return s, true
	}
	s, ok := r.span(r.node(num))
	if ok {
		r.read[num] = s
	}
	return s, ok
}

func (r *reader) span(n api.Node) (span, bool) {
	switch n.Kind {
	case api.NodeLeaf:
		r.items = append(r.items, n.Items...)
		return span{first: n.Items[0].Key, last: n.Items[len(n.Items)-1].Key, levels: 1}, true
	case api.NodeBranch:
		return r.joined(n.Kids)
	}
	return span{}, false
}

// joined is what the tree of a branch of kids has; false, if that is not right.
func (r *reader) joined(kids []api.Kid) (span, bool) {
	whole := span{first: kids[0].Key}
	for i, k := range kids {
		s, ok := r.below(k.Num)
		// A block to which one comes a second time does not stand behind itself: so it is told here, too.
		if !ok || s.first != k.Key || s.first <= whole.last {
			return span{}, false
		}
		if i > 0 && s.levels != whole.levels {
			return span{}, false
		}
		whole.last, whole.levels = s.last, s.levels
	}
	whole.levels++
	return whole, true
}

// node is that of a cell that is there.
func (r *reader) node(num uint32) api.Node {
	at, _ := r.find(num)
	// The heap is right, so that each cell has a node.
	n, _ := node.Decode(r.cells[at].Data)
	return n
}

func (r *reader) find(num uint32) (int, bool) {
	return slices.BinarySearchFunc(r.cells, num, func(c api.Cell, num uint32) int {
		return cmp.Compare(c.Num, num)
	})
}
