package heap

import (
	"sync/atomic"

	"cambium/api"
	"cambium/hash"
)

const maxRefs = api.MaxBlocks * 256 // Refs of a cell, at most

// cell is a cell at work.
type cell struct {
	api.Cell
	node  api.Node
	below []*cell      // those to which it leads, each as often as it leads there
	asked atomic.Int64 // how often those that lead to it asked for it
	hash  [32]byte     // made when it is asked for first
	gone  bool         // it is no more
}

// ask is what a cell is asked for by each that leads to it: its hash.
func (c *cell) ask() [32]byte {
	if c.asked.Add(1) == 1 {
		c.hash = hash.Sum(c.Data)
	}
	return c.hash
}

// leads is how many lead to a cell.
func (c *cell) leads() int {
	return int(c.asked.Load())
}

func (c *cell) rightRefs() bool {
	return c.Refs >= c.leads() && c.Refs <= maxRefs
}

func (c *cell) held() int {
	return c.Refs - c.leads()
}

// hold gives a cell one more of its Refs, be it for one that holds it or for one that leads to it.
func (c *cell) hold() api.Errno {
	if c.Refs == maxRefs {
		return api.ErrRange
	}
	c.Refs++
	return api.OK
}

func (c *cell) drop() api.Errno {
	if c.held() == 0 {
		return api.ErrState
	}
	letGo(c)
	return api.OK
}

// letGo lets cells go, and what only they led to.
func letGo(cells ...*cell) {
	// A list of them, as there may be as many levels as blocks.
	waiting := append([]*cell(nil), cells...)
	for len(waiting) > 0 {
		last := len(waiting) - 1
		c := waiting[last]
		waiting = waiting[:last]
		c.Refs--
		if c.Refs == 0 {
			c.gone = true
			waiting = append(waiting, c.below...)
		}
	}
}
