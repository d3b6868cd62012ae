package heap

import (
	"slices"

	"cambium/api"
	"cambium/hash"
	"cambium/node"
)

// filling is a heap at work into which nodes are put.
type filling struct {
	atWork
	first  map[string]uint32 // of each data the number of the first cell that has it
	full   int               // among the cells, none is missing ahead of here
	failed api.Errno         // the first error of a put: what is at work is spent then
}

func firstOfEach(cells []api.Cell) map[string]uint32 {
	first := map[string]uint32{}
	for _, c := range cells {
		if _, there := first[c.Data]; !there {
			first[c.Data] = c.Num
		}
	}
	return first
}

// put tells which cell has a node, and makes it, if there is none.
func (f *filling) put(n api.Node) (api.Kid, api.Errno) {
	if f.failed != api.OK {
		return api.Kid{}, f.failed
	}
	kid, why := f.kid(n)
	f.failed = why
	return kid, why
}

func (f *filling) kid(n api.Node) (api.Kid, api.Errno) {
	data, why := node.Encode(n)
	if why != api.OK {
		return api.Kid{}, why
	}
	below, why := f.below(n)
	if why != api.OK {
		return api.Kid{}, why
	}
	num, there := f.first[data]
	if !there {
		num, why = f.add(data, below)
	}
	if why != api.OK {
		return api.Kid{}, why
	}
	return api.Kid{Num: num, Hash: hash.Sum(data)}, api.OK
}

// add makes a cell that leads to others, and tells its number.
func (f *filling) add(data string, below []*cell) (uint32, api.Errno) {
	at := f.firstGap()
	num := numAt(at)
	if num == f.size {
		return 0, api.ErrFull
	}
	for _, b := range below {
		if why := b.hold(); why != api.OK {
			return 0, why
		}
	}
	f.cells = slices.Insert(f.cells, at, &cell{Cell: api.Cell{Num: num, Data: data}})
	f.first[data] = num
	return num, api.OK
}

// firstGap is where among the cells the one of the least free number would stand.
func (f *filling) firstGap() int {
	for f.full < len(f.cells) && f.cells[f.full].Num == numAt(f.full) {
		f.full++
	}
	return f.full
}

// numAt is a cell's number, if none below it is free.
func numAt(i int) uint32 {
	return uint32(i) + firstNum
}
