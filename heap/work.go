package heap

import (
	"cmp"
	"slices"

	"cambium/api"
	"cambium/node"
)

const firstNum = 2 // the least block that a cell can have

// atWork is a heap at work, its cells by number.
type atWork struct {
	size  uint32
	cells []*cell
}

// takenUp is a heap at work, if it is right.
func takenUp(h api.Heap) (atWork, api.Errno) {
	w := atWork{size: h.Size}
	if h.Size < api.MinBlocks || h.Size > api.MaxBlocks || !w.takeCells(h.Cells) || !w.takeLeads() {
		return atWork{}, api.ErrState
	}
	for _, c := range w.cells {
		if !c.rightRefs() {
			return atWork{}, api.ErrState
		}
	}
	return w, api.OK
}

// takeCells takes cells up; false, if one has a number or data that are not right.
func (w *atWork) takeCells(cells []api.Cell) bool {
	for i, c := range cells {
		if c.Num < firstNum || c.Num >= w.size || i > 0 && c.Num <= cells[i-1].Num {
			return false
		}
		n, why := node.Decode(c.Data)
		if why != api.OK {
			return false
		}
		w.cells = append(w.cells, &cell{Cell: c, node: n})
	}
	return true
}

// takeLeads finds what is below each cell; false, if something there is not what is named.
func (w *atWork) takeLeads() bool {
	for _, c := range w.cells {
		below, why := w.below(c.node)
		if why != api.OK {
			return false
		}
		c.below = below
	}
	return true
}

// below are the cells to which a node leads, each asked for by it.
func (w *atWork) below(n api.Node) ([]*cell, api.Errno) {
	var cells []*cell
	why := api.OK
	for _, k := range node.Named(n) {
		c, none := w.find(k.Num)
		if none != api.OK {
			return nil, none
		}
		if c.ask() != k.Hash {
			why = api.ErrBad // a later one that is not there is told instead
		}
		cells = append(cells, c)
	}
	return cells, why
}

func (w *atWork) find(num uint32) (*cell, api.Errno) {
	at, found := slices.BinarySearchFunc(w.cells, num, func(c *cell, num uint32) int {
		return cmp.Compare(c.Num, num)
	})
	if !found {
		return nil, api.ErrNone
	}
	return w.cells[at], api.OK
}

// sweep goes through the cells once: one that loses its last Ref on the way is no more by that, so that none is left without.
func (w *atWork) sweep() {
	for _, c := range w.cells {
		if c.Refs == 0 && !c.gone {
			c.gone = true
			letGo(c.below...)
		}
	}
}

func (w *atWork) plain() api.Heap {
	h := api.Heap{Size: w.size}
	for _, c := range w.cells {
		if !c.gone {
			h.Cells = append(h.Cells, c.Cell)
		}
	}
	return h
}
