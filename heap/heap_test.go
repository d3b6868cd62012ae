package heap_test

import (
	"math"
	"slices"
	"strings"
	"testing"

	"cambium/api"
	"cambium/hash"
	"cambium/heap"
	"cambium/node"
)

const maxRefs = api.MaxBlocks * 256

// like tells if two heaps are one: nil and empty lists are alike.
func like(a, b api.Heap) bool {
	return a.Size == b.Size && slices.Equal(a.Cells, b.Cells)
}

func copied(h api.Heap) api.Heap {
	h.Cells = slices.Clone(h.Cells)
	return h
}

func leaf(key string) api.Node {
	return api.Node{Kind: api.NodeLeaf, Items: []api.Item{{Key: key, Val: "of " + key}}}
}

// branch leads to kids, in their order.
func branch(kids ...api.Kid) api.Node {
	n := api.Node{Kind: api.NodeBranch}
	for i, k := range kids {
		k.Key = string([]byte{byte('a' + i)})
		n.Kids = append(n.Kids, k)
	}
	return n
}

// table has a volume for each kid; a zero one has nothing.
func table(kids ...api.Kid) api.Node {
	n := api.Node{Kind: api.NodeTable}
	for i, k := range kids {
		n.Volumes = append(n.Volumes, api.Volume{Name: string([]byte{byte('a' + i)}), Kind: api.VolBranch, Root: k.Num, Hash: k.Hash})
	}
	return n
}

func dataOf(n api.Node) string {
	data, why := node.Encode(n)
	if why != api.OK {
		panic("the node is not right")
	}
	return data
}

func cellOf(num uint32, n api.Node, refs int) api.Cell {
	return api.Cell{Num: num, Data: dataOf(n), Refs: refs}
}

// kidOf is how a cell is named by those that lead to it.
func kidOf(c api.Cell) api.Kid {
	return api.Kid{Num: c.Num, Hash: hash.Sum(c.Data)}
}

func heapOf(cells ...api.Cell) api.Heap {
	return api.Heap{Size: api.MinBlocks, Cells: cells}
}

// The cells of the sample: a table, held, leads to both branches; the one to two leaves, the other twice to one of these.
var (
	leafA   = cellOf(2, leaf("A"), 4)
	leafB   = cellOf(4, leaf("B"), 1)
	branchC = cellOf(5, branch(kidOf(leafA), kidOf(leafB)), 1)
	branchD = cellOf(7, branch(kidOf(leafA), kidOf(leafA)), 2)
	tableE  = cellOf(15, table(kidOf(branchC), api.Kid{}, kidOf(branchD)), 1)
)

// sample has leafA held once, branchD once, and tableE once.
func sample() api.Heap {
	return heapOf(leafA, leafB, branchC, branchD, tableE)
}

// refs is a heap with other Refs of one cell.
func refs(h api.Heap, at, refs int) api.Heap {
	h = copied(h)
	h.Cells[at].Refs = refs
	return h
}

// with is the sample with a cell otherwise.
func with(at int, change func(c *api.Cell)) api.Heap {
	h := sample()
	change(&h.Cells[at])
	return h
}

func rightHeaps() []api.Heap {
	twice := cellOf(9, leaf("A"), 0)
	return []api.Heap{
		sample(),
		heapOf(),
		{Size: api.MinBlocks, Cells: []api.Cell{}},
		{Size: api.MaxBlocks},
		{Size: api.MaxBlocks, Cells: []api.Cell{cellOf(api.MaxBlocks-1, leaf("A"), maxRefs)}},
		heapOf(cellOf(2, leaf("A"), 0), cellOf(15, leaf("B"), 0)),
		refs(heapOf(cellOf(3, leaf("A"), 0), twice, cellOf(11, branch(kidOf(twice)), 0)), 1, 1),
		heapOf(cellOf(8, table(), 0)),
		heapOf(cellOf(8, table(api.Kid{}, api.Kid{}), 3)),
		with(0, func(c *api.Cell) { c.Refs = 3 }),
		with(0, func(c *api.Cell) { c.Refs = maxRefs }),
		with(4, func(c *api.Cell) { c.Refs = 0 }),
	}
}

func wrongHeaps() []api.Heap {
	lone := func(num uint32) api.Heap { return heapOf(cellOf(num, leaf("A"), 0)) }
	data := func(data string) api.Heap { return heapOf(api.Cell{Num: 2, Data: data}) }
	otherHash := kidOf(leafA)
	otherHash.Hash[31] ^= 1
	noHash := api.Kid{Num: leafA.Num}
	beyond := api.Kid{Num: api.MinBlocks}
	wrong := []api.Heap{
		{},
		{Cells: sample().Cells},
		{Size: api.MinBlocks - 1},
		{Size: api.MaxBlocks + 1},
		{Size: math.MaxUint32},
		lone(0),
		lone(1),
		lone(api.MinBlocks),
		lone(math.MaxUint32),
		data(""),
		data("x"),
		data(strings.Repeat("x", api.BlockSize+1)),
		data(dataOf(leaf("A")) + "\x00"),
		data(dataOf(leaf("A"))[1:]),
		heapOf(leafB, leafB),
		heapOf(leafA, leafB, leafA),
		heapOf(leafB, leafA),
		heapOf(leafA, branchC),
		heapOf(leafA, leafB, branchD, tableE),
		heapOf(leafA, cellOf(9, branch(otherHash), 0)),
		heapOf(leafA, cellOf(9, branch(kidOf(leafA), otherHash), 0)),
		heapOf(leafA, cellOf(9, branch(otherHash, kidOf(leafA)), 0)),
		heapOf(leafA, cellOf(9, table(otherHash), 0)),
		heapOf(leafA, cellOf(9, branch(noHash), 0)),
		heapOf(leafA, cellOf(9, branch(beyond), 0)),
		heapOf(leafA, cellOf(9, table(api.Kid{}, beyond), 0)),
		with(0, func(c *api.Cell) { c.Refs = 2 }),
		with(0, func(c *api.Cell) { c.Refs = -1 }),
		with(0, func(c *api.Cell) { c.Refs = math.MinInt }),
		with(0, func(c *api.Cell) { c.Refs = maxRefs + 1 }),
		with(0, func(c *api.Cell) { c.Refs = math.MaxInt }),
		with(2, func(c *api.Cell) { c.Refs = 0 }),
		with(4, func(c *api.Cell) { c.Refs = -1 }),
		with(4, func(c *api.Cell) { c.Refs = math.MinInt }),
		with(4, func(c *api.Cell) { c.Refs = maxRefs + 1 }),
		with(4, func(c *api.Cell) { c.Num = api.MinBlocks }),
		with(1, func(c *api.Cell) { c.Data = dataOf(leaf("other")) }),
	}
	return wrong
}

// 6.1: what a right heap is.
func TestCheck(t *testing.T) {
	for i, h := range rightHeaps() {
		if why := heap.Check(h); why != api.OK {
			t.Errorf("right heap %d: error %d", i, why)
		}
	}
	for i, h := range wrongHeaps() {
		if why := heap.Check(h); why != api.ErrState {
			t.Errorf("wrong heap %d: error %d", i, why)
		}
	}
}

// 6.1: that a heap is not right is answered first, and all else is zero.
func TestWrongHeaps(t *testing.T) {
	for i, h := range wrongHeaps() {
		for _, num := range []uint32{0, 2, 15, math.MaxUint32} {
			if n, why := heap.Get(h, num); n.Kind != 0 || n.Items != nil || n.Kids != nil || n.Volumes != nil || why != api.ErrState {
				t.Errorf("Get of %d: %v, error %d", i, n, why)
			}
			if got, why := heap.Held(h, num); got != 0 || why != api.ErrState {
				t.Errorf("Held of %d: %d, error %d", i, got, why)
			}
			if after, why := heap.Hold(h, num); !like(after, api.Heap{}) || why != api.ErrState {
				t.Errorf("Hold of %d: %v, error %d", i, after, why)
			}
			if after, why := heap.Drop(h, num); !like(after, api.Heap{}) || why != api.ErrState {
				t.Errorf("Drop of %d: %v, error %d", i, after, why)
			}
		}
		for _, n := range []api.Node{{}, leaf("A"), leaf("new"), branch(api.Kid{Num: 9})} {
			if after, kid, why := heap.Put(h, n); !like(after, api.Heap{}) || kid != (api.Kid{}) || why != api.ErrState {
				t.Errorf("Put into %d: %v, %v, error %d", i, after, kid, why)
			}
		}
		if after, why := heap.Sweep(h); !like(after, api.Heap{}) || why != api.ErrState {
			t.Errorf("Sweep of %d: %v, error %d", i, after, why)
		}
		if got, why := heap.Free(h); got != 0 || why != api.ErrState {
			t.Errorf("Free of %d: %d, error %d", i, got, why)
		}
	}
}

// 6.1: the node of a cell, how often it is held, and how many blocks are free.
func TestAsked(t *testing.T) {
	h := sample()
	for _, x := range []struct {
		cell api.Cell
		held int
	}{{leafA, 1}, {leafB, 0}, {branchC, 0}, {branchD, 1}, {tableE, 1}} {
		n, why := heap.Get(h, x.cell.Num)
		if why != api.OK || dataOf(n) != x.cell.Data {
			t.Errorf("Get %d: %v, error %d", x.cell.Num, n, why)
		}
		if held, why := heap.Held(h, x.cell.Num); held != x.held || why != api.OK {
			t.Errorf("Held %d: %d, error %d", x.cell.Num, held, why)
		}
	}
	for _, num := range []uint32{0, 1, 3, 6, 14, 16, math.MaxUint32} {
		if n, why := heap.Get(h, num); n.Kind != 0 || n.Items != nil || n.Kids != nil || n.Volumes != nil || why != api.ErrNone {
			t.Errorf("Get %d: %v, error %d", num, n, why)
		}
		if held, why := heap.Held(h, num); held != 0 || why != api.ErrNone {
			t.Errorf("Held %d: %d, error %d", num, held, why)
		}
	}
	if held, why := heap.Held(with(0, func(c *api.Cell) { c.Refs = maxRefs }), 2); held != maxRefs-3 || why != api.OK {
		t.Errorf("Held of one with most Refs: %d, error %d", held, why)
	}
	for _, x := range []struct {
		h    api.Heap
		want int
	}{{h, 9}, {heapOf(), 14}, {api.Heap{Size: api.MaxBlocks}, api.MaxBlocks - 2}, {api.Heap{Size: 1000, Cells: h.Cells}, 993}} {
		if got, why := heap.Free(x.h); got != x.want || why != api.OK {
			t.Errorf("Free: %d, not %d, error %d", got, x.want, why)
		}
	}
}

// 6.2: a new node is a cell of the least number that is free, without Refs; those to which it leads have one more.
func TestPut(t *testing.T) {
	for i, x := range []struct {
		h    api.Heap
		n    api.Node
		num  uint32
		refs map[uint32]int // of those that have other ones now
	}{
		{heapOf(), leaf("new"), 2, nil},
		{heapOf(cellOf(3, leaf("A"), 0)), leaf("new"), 2, nil},
		{sample(), leaf("new"), 3, nil},
		{heapOf(cellOf(2, leaf("A"), 0), cellOf(3, leaf("B"), 1)), leaf("new"), 4, nil},
		{sample(), table(), 3, nil},
		{sample(), table(api.Kid{}, api.Kid{}), 3, nil},
		{sample(), branch(kidOf(leafB)), 3, map[uint32]int{4: 2}},
		{sample(), branch(kidOf(branchD), kidOf(leafB), kidOf(branchD)), 3, map[uint32]int{4: 2, 7: 4}},
		{sample(), table(kidOf(tableE), api.Kid{}, kidOf(leafA)), 3, map[uint32]int{2: 5, 15: 2}},
		{sample(), table(kidOf(leafA), kidOf(leafA)), 3, map[uint32]int{2: 6}},
		{with(0, func(c *api.Cell) { c.Refs = maxRefs - 2 }), table(kidOf(leafA), kidOf(leafA)), 3, map[uint32]int{2: maxRefs}},
	} {
		after, kid, why := heap.Put(x.h, x.n)
		want := copied(x.h)
		for j, c := range want.Cells {
			if refs, there := x.refs[c.Num]; there {
				want.Cells[j].Refs = refs
			}
		}
		at := slices.IndexFunc(append(copied(want).Cells, api.Cell{Num: math.MaxUint32}), func(c api.Cell) bool { return c.Num > x.num })
		c := cellOf(x.num, x.n, 0)
		want.Cells = slices.Insert(want.Cells, at, c)
		if !like(after, want) || kid != kidOf(c) || why != api.OK {
			t.Errorf("%d: Put: %v, not %v; %v, error %d", i, after, want, kid, why)
		}
		if why := heap.Check(after); why != api.OK {
			t.Errorf("%d: Put: then error %d", i, why)
		}
	}
}

// 6.2: of the same data there is one cell alone; of several the first one is told.
func TestPutTwice(t *testing.T) {
	for _, c := range sample().Cells {
		n, _ := heap.Get(sample(), c.Num)
		if after, kid, why := heap.Put(sample(), n); !like(after, sample()) || kid != kidOf(c) || why != api.OK {
			t.Errorf("Put of %d: %v, %v, error %d", c.Num, after, kid, why)
		}
	}
	h := heapOf(cellOf(5, leaf("B"), 0), cellOf(6, leaf("A"), 0), cellOf(9, leaf("A"), 2), cellOf(12, leaf("A"), 0))
	if after, kid, why := heap.Put(h, leaf("A")); !like(after, h) || kid != kidOf(h.Cells[1]) || why != api.OK {
		t.Errorf("Put: %v, %v, error %d", after, kid, why)
	}
}

// crowded has no free block; the first cell has as many Refs as it may.
func crowded() api.Heap {
	h := heapOf(cellOf(2, leaf("A"), maxRefs))
	for num := uint32(3); num < api.MinBlocks; num++ {
		h.Cells = append(h.Cells, cellOf(num, leaf("leaf "+string(rune('a'+num))), int(num%3)))
	}
	return h
}

// 6.2: the errors of Put, the first one where several apply; the heap is as it was then, and there is no Kid.
func TestPutErrors(t *testing.T) {
	missing, beyond := api.Kid{Num: 3}, api.Kid{Num: 16}
	other := kidOf(leafA)
	other.Hash[0] ^= 0x80
	most := with(0, func(c *api.Cell) { c.Refs = maxRefs })
	nearly := with(0, func(c *api.Cell) { c.Refs = maxRefs - 1 })
	long := leaf("A")
	for _, key := range []string{"B", "C", "D", "E"} {
		long.Items = append(long.Items, api.Item{Key: key, Val: strings.Repeat("v", api.MaxVal)})
	}
	a := kidOf(crowded().Cells[0])
	otherA := a
	otherA.Hash[31] ^= 1
	for i, x := range []struct {
		h    api.Heap
		n    api.Node
		want api.Errno
	}{
		{sample(), api.Node{}, api.ErrForm},
		{sample(), branch(), api.ErrForm},
		{sample(), branch(missing, api.Kid{Num: 1}), api.ErrForm},
		{crowded(), leaf(""), api.ErrForm},
		{crowded(), long, api.ErrLong},
		{sample(), long, api.ErrLong},
		{sample(), branch(missing), api.ErrNone},
		{sample(), branch(kidOf(leafA), missing), api.ErrNone},
		{sample(), branch(beyond), api.ErrNone},
		{sample(), table(api.Kid{}, beyond), api.ErrNone},
		{sample(), branch(other, missing), api.ErrNone},
		{sample(), branch(missing, other), api.ErrNone},
		{heapOf(), table(kidOf(leafA)), api.ErrNone},
		{crowded(), branch(otherA, a, beyond), api.ErrNone},
		{sample(), branch(other), api.ErrBad},
		{sample(), branch(other, kidOf(leafB)), api.ErrBad},
		{sample(), branch(kidOf(leafB), other), api.ErrBad},
		{sample(), table(api.Kid{}, other), api.ErrBad},
		{sample(), table(api.Kid{Num: 2}), api.ErrBad},
		{most, branch(other), api.ErrBad},
		{crowded(), branch(otherA), api.ErrBad},
		{crowded(), branch(a, otherA), api.ErrBad},
		{crowded(), leaf("new"), api.ErrFull},
		{crowded(), table(), api.ErrFull},
		{crowded(), branch(a), api.ErrFull},
		{most, branch(kidOf(leafB), kidOf(leafA)), api.ErrRange},
		{most, table(api.Kid{}, kidOf(leafA)), api.ErrRange},
		{nearly, table(kidOf(leafA), kidOf(leafA)), api.ErrRange},
		{nearly, branch(kidOf(leafA), kidOf(leafB), kidOf(leafA)), api.ErrRange},
	} {
		if after, kid, why := heap.Put(x.h, x.n); !like(after, x.h) || kid != (api.Kid{}) || why != x.want {
			t.Errorf("%d: Put: %v, %v, error %d, not %d", i, after, kid, why, x.want)
		}
	}
	for _, c := range crowded().Cells {
		n, _ := heap.Get(crowded(), c.Num)
		if after, kid, why := heap.Put(crowded(), n); !like(after, crowded()) || kid != kidOf(c) || why != api.OK {
			t.Errorf("Put of what a full heap has: %v, error %d", kid, why)
		}
	}
	if _, _, why := heap.Put(nearly, branch(kidOf(leafA))); why != api.OK {
		t.Errorf("Put with the last Ref: error %d", why)
	}
}

// 6.2: a cell is held once more, and no other one.
func TestHold(t *testing.T) {
	for at, c := range sample().Cells {
		want := with(at, func(c *api.Cell) { c.Refs++ })
		if after, why := heap.Hold(sample(), c.Num); !like(after, want) || why != api.OK {
			t.Errorf("Hold %d: %v, error %d", c.Num, after, why)
		}
	}
	for _, num := range []uint32{0, 1, 3, 16, math.MaxUint32} {
		if after, why := heap.Hold(sample(), num); !like(after, sample()) || why != api.ErrNone {
			t.Errorf("Hold %d: %v, error %d", num, after, why)
		}
	}
	nearly := with(1, func(c *api.Cell) { c.Refs = maxRefs - 1 })
	most := with(1, func(c *api.Cell) { c.Refs = maxRefs })
	if after, why := heap.Hold(nearly, 4); !like(after, most) || why != api.OK {
		t.Errorf("Hold with the last Ref: error %d", why)
	}
	if after, why := heap.Hold(most, 4); !like(after, most) || why != api.ErrRange {
		t.Errorf("Hold with most Refs: error %d", why)
	}
}

// 6.2: a cell that is let go is no more if it has no Refs then; so with those below it, as often as it leads there.
func TestDrop(t *testing.T) {
	lone := heapOf(cellOf(2, leaf("A"), 1), cellOf(3, leaf("B"), 1), cellOf(4, leaf("C"), 0))
	other := heapOf(cellOf(2, leaf("A"), 1), cellOf(4, leaf("C"), 0))
	double := refs(heapOf(cellOf(3, branch(kidOf(leafB), kidOf(leafB)), 1), leafB), 1, 2)
	for i, x := range []struct {
		h    api.Heap
		num  uint32
		want api.Heap
	}{
		{lone, 3, other},
		{sample(), 2, with(0, func(c *api.Cell) { c.Refs = 3 })},
		{sample(), 7, with(3, func(c *api.Cell) { c.Refs = 1 })},
		{sample(), 15, refs(refs(heapOf(leafA, branchD), 0, 3), 1, 1)},
		{with(4, func(c *api.Cell) { c.Refs = 2 }), 15, sample()},
		{refs(refs(sample(), 0, 3), 3, 1), 15, heapOf()},
		{double, 3, heapOf()},
		{refs(double, 1, 3), 3, heapOf(leafB)},
	} {
		after, why := heap.Drop(x.h, x.num)
		if !like(after, x.want) || why != api.OK || heap.Check(after) != api.OK {
			t.Errorf("%d: Drop: %v, not %v, error %d", i, after, x.want, why)
		}
	}
	for _, num := range []uint32{0, 1, 3, 16, math.MaxUint32} {
		if after, why := heap.Drop(sample(), num); !like(after, sample()) || why != api.ErrNone {
			t.Errorf("Drop %d: %v, error %d", num, after, why)
		}
	}
	for _, num := range []uint32{4, 5} {
		if after, why := heap.Drop(sample(), num); !like(after, sample()) || why != api.ErrState {
			t.Errorf("Drop %d: %v, error %d", num, after, why)
		}
	}
	if after, why := heap.Drop(lone, 4); !like(after, lone) || why != api.ErrState {
		t.Errorf("Drop of one without Refs: %v, error %d", after, why)
	}
}

// 6.3: cells without Refs are no more, and what they led to is let go.
func TestSweep(t *testing.T) {
	down := refs(refs(refs(sample(), 0, 3), 3, 1), 4, 0)
	lead := cellOf(3, branch(kidOf(leafB)), 0)
	for i, x := range []struct{ h, want api.Heap }{
		{heapOf(), heapOf()},
		{sample(), sample()},
		{crowded(), api.Heap{Size: api.MinBlocks, Cells: slices.DeleteFunc(crowded().Cells, func(c api.Cell) bool { return c.Refs == 0 })}},
		{down, heapOf()},
		{refs(down, 0, 4), refs(heapOf(leafA), 0, 1)},
		{refs(sample(), 4, 0), refs(refs(heapOf(leafA, branchD), 0, 3), 1, 1)},
		{heapOf(lead, leafB), heapOf()},
		{refs(heapOf(lead, leafB), 1, 2), heapOf(leafB)},
		{refs(heapOf(cellOf(2, leaf("X"), 0), leafB, cellOf(9, table(), 1)), 1, 0), heapOf(cellOf(9, table(), 1))},
	} {
		after, why := heap.Sweep(x.h)
		if !like(after, x.want) || why != api.OK {
			t.Errorf("%d: Sweep: %v, not %v, error %d", i, after, x.want, why)
		}
	}
}
