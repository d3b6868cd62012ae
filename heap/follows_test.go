package heap_test

import (
	"maps"
	"slices"
	"strconv"
	"testing"

	"cambium/api"
	"cambium/hash"
	"cambium/heap"
	"cambium/node"
)

// model is a heap as a table, changed as the chapter says it word by word.
type model struct {
	size  uint32
	cells map[uint32]modelCell
}

type modelCell struct {
	api.Cell
	kids []uint32
}

func (m model) heap() api.Heap {
	h := api.Heap{Size: m.size}
	for _, num := range slices.Sorted(maps.Keys(m.cells)) {
		h.Cells = append(h.Cells, m.cells[num].Cell)
	}
	return h
}

// leads is how many lead to a cell.
func (m model) leads(num uint32) int {
	leads := 0
	for _, from := range m.cells {
		for _, to := range from.kids {
			if to == num {
				leads++
			}
		}
	}
	return leads
}

func (m model) held(num uint32) int {
	return m.cells[num].Refs - m.leads(num)
}

func (m model) hold(num uint32) {
	c := m.cells[num]
	c.Refs++
	m.cells[num] = c
}

func (m model) letGo(num uint32) {
	c := m.cells[num]
	c.Refs--
	m.cells[num] = c
	if c.Refs == 0 {
		m.remove(num)
	}
}

func (m model) remove(num uint32) {
	kids := m.cells[num].kids
	delete(m.cells, num)
	for _, kid := range kids {
		m.letGo(kid)
	}
}

// sweep removes the first cell without Refs, till there is none.
func (m model) sweep() {
	for again := true; again; {
		again = false
		for _, c := range m.heap().Cells {
			if c.Refs == 0 {
				m.remove(c.Num)
				again = true
				break
			}
		}
	}
}

// put is the number of the cell that has a node; 0, if there is no room.
func (m model) put(n api.Node) uint32 {
	data := dataOf(n)
	for _, c := range m.heap().Cells {
		if c.Data == data {
			return c.Num
		}
	}
	for num := uint32(2); num < m.size; num++ {
		if _, taken := m.cells[num]; taken {
			continue
		}
		for _, kid := range node.Kids(n) {
			m.hold(kid)
		}
		m.cells[num] = modelCell{api.Cell{Num: num, Data: data}, node.Kids(n)}
		return num
	}
	return 0
}

// below are what is held, but for one less of a number, and all below it, with what they have.
func (m model) below(less uint32) map[uint32]string {
	found := map[uint32]string{}
	var look func(num uint32)
	look = func(num uint32) {
		if _, seen := found[num]; seen {
			return
		}
		found[num] = m.cells[num].Data
		for _, kid := range m.cells[num].kids {
			look(kid)
		}
	}
	for num := range m.cells {
		held := m.held(num)
		if num == less {
			held--
		}
		if held > 0 {
			look(num)
		}
	}
	return found
}

// choices are numbers in a mixed order.
type choices uint32

func (x *choices) below(n int) int {
	*x = *x*1664525 + 1013904223
	return int(*x>>16) % n
}

// node is a new one, that leads to some of the cells.
func (x *choices) node(cells []api.Cell) api.Node {
	var kids []api.Kid
	for range x.below(4) {
		if len(cells) == 0 {
			break
		}
		kids = append(kids, kidOf(cells[x.below(len(cells))]))
	}
	switch {
	case len(kids) == 0:
		return leaf(strconv.Itoa(x.below(9)))
	case x.below(2) == 0:
		return branch(kids...)
	}
	return table(append(kids, api.Kid{})...)
}

// step does something to a heap and to its model, and tells what was dropped.
func step(t *testing.T, h api.Heap, m model, x *choices) (api.Heap, uint32) {
	t.Helper()
	if x.below(20) == 0 {
		m.sweep()
		after, why := heap.Sweep(h)
		if why != api.OK {
			t.Fatalf("Sweep: error %d", why)
		}
		return after, 0
	}
	num := uint32(x.below(int(m.size)))
	_, there := m.cells[num]
	switch kind := x.below(8); {
	case kind < 4:
		n := x.node(h.Cells)
		after, kid, why := heap.Put(h, n)
		if num := m.put(n); num == 0 && why != api.ErrFull || num != 0 && (why != api.OK || kid != kidOf(m.cells[num].Cell)) {
			t.Fatalf("Put: %v, error %d, but the model has %d", kid, why, num)
		}
		return after, 0
	case kind < 6:
		after, why := heap.Hold(h, num)
		if there != (why == api.OK) || !there && why != api.ErrNone {
			t.Fatalf("Hold %d: error %d", num, why)
		}
		if there {
			m.hold(num)
		}
		return after, 0
	}
	held := there && m.held(num) > 0
	after, why := heap.Drop(h, num)
	if held != (why == api.OK) || there && !held && why != api.ErrState || !there && why != api.ErrNone {
		t.Fatalf("Drop %d: error %d", num, why)
	}
	if held {
		m.letGo(num)
	}
	return after, num
}

// 6.1 to 6.3, and 6.5: whatever is done, a heap has what the chapter's words say, and what is held, and all below it, stays as it is.
func TestManySteps(t *testing.T) {
	for _, size := range []uint32{16, 40} {
		x := choices(size)
		h, m := api.Heap{Size: size}, model{size: size, cells: map[uint32]modelCell{}}
		for i := range 1500 {
			before := model{size: size, cells: maps.Clone(m.cells)}
			var dropped uint32
			h, dropped = step(t, h, m, &x)
			if want := m.heap(); !like(h, want) {
				t.Fatalf("size %d, step %d: %v, not %v", size, i, h, want)
			}
			if why := heap.Check(h); why != api.OK {
				t.Fatalf("size %d, step %d: then error %d", size, i, why)
			}
			for num, data := range before.below(dropped) {
				if m.cells[num].Data != data {
					t.Fatalf("size %d, step %d: %d is otherwise", size, i, num)
				}
			}
			if i%20 == 0 {
				wantAsked(t, h, m)
			}
		}
		wantNoneLost(t, h)
	}
}

func wantAsked(t *testing.T, h api.Heap, m model) {
	t.Helper()
	if free, why := heap.Free(h); free != int(m.size)-2-len(m.cells) || why != api.OK {
		t.Fatalf("Free: %d, error %d", free, why)
	}
	for num, c := range m.cells {
		if held, why := heap.Held(h, num); held != m.held(num) || why != api.OK {
			t.Fatalf("Held %d: %d, error %d", num, held, why)
		}
		if n, why := heap.Get(h, num); why != api.OK || dataOf(n) != c.Data {
			t.Fatalf("Get %d: %v, error %d", num, n, why)
		}
	}
}

// wantNoneLost drops all that is held, one after the other, and sweeps: there is no cell then.
func wantNoneLost(t *testing.T, h api.Heap) {
	t.Helper()
	for num := range h.Size {
		for held, _ := heap.Held(h, num); held > 0; held, _ = heap.Held(h, num) {
			var why api.Errno
			if h, why = heap.Drop(h, num); why != api.OK {
				t.Fatalf("Drop %d: error %d", num, why)
			}
		}
	}
	if after, why := heap.Sweep(h); len(after.Cells) != 0 || why != api.OK {
		t.Errorf("swept: %v, error %d", after, why)
	}
}

// 6.6: what nothing holds is no more when it is swept.
func TestNoneLost(t *testing.T) {
	for _, h := range rightHeaps() {
		for i := range h.Cells {
			h.Cells[i].Refs = min(h.Cells[i].Refs, 6) // so that it takes few steps
		}
		wantNoneLost(t, h)
	}
}

// 6.5: what was put and held is there, whatever is put, held, dropped and swept behind it.
func TestKept(t *testing.T) {
	h := api.Heap{Size: 32}
	h, a, _ := heap.Put(h, leaf("A"))
	h, b, _ := heap.Put(h, leaf("B"))
	h, top, _ := heap.Put(h, branch(a, b))
	h, _ = heap.Hold(h, top.Num)
	for i := range 200 {
		other, kid, why := heap.Put(h, leaf("leaf "+strconv.Itoa(i%40)))
		if h = other; why == api.OK && i%3 > 0 {
			h, kid, _ = heap.Put(h, branch(kid, a, top))
			h, _ = heap.Hold(h, kid.Num)
		}
		if i%3 == 2 {
			h, _ = heap.Drop(h, kid.Num)
		}
		if i%7 == 0 {
			h, _ = heap.Sweep(h)
		}
		for kid, n := range map[api.Kid]api.Node{a: leaf("A"), b: leaf("B"), top: branch(a, b)} {
			if got, why := heap.Get(h, kid.Num); why != api.OK || dataOf(got) != dataOf(n) || hash.Sum(dataOf(got)) != kid.Hash {
				t.Fatalf("step %d: Get %d: %v, error %d", i, kid.Num, got, why)
			}
		}
	}
}

// Example 1: a leaf that is put twice is one cell; held, and dropped, it is none.
func TestExample(t *testing.T) {
	h, first, _ := heap.Put(heapOf(), leaf("a"))
	h, second, why := heap.Put(h, leaf("a"))
	if first != second || len(h.Cells) != 1 || why != api.OK {
		t.Errorf("Put twice: %v, %v, %v, error %d", first, second, h, why)
	}
	h, _ = heap.Hold(h, first.Num)
	if h, why = heap.Drop(h, first.Num); !like(h, heapOf()) || why != api.OK {
		t.Errorf("Drop: %v, error %d", h, why)
	}
}

// 6.2 and 6.3: a heap of as many cells as one can have, each below the next one, is let go as a whole.
func TestManyLevels(t *testing.T) {
	h := api.Heap{Size: api.MaxBlocks, Cells: []api.Cell{cellOf(2, leaf("A"), 1)}}
	for num := uint32(3); num < api.MaxBlocks; num++ {
		h.Cells = append(h.Cells, cellOf(num, branch(kidOf(h.Cells[num-3])), 1))
	}
	if _, _, why := heap.Put(h, leaf("new")); why != api.ErrFull {
		t.Errorf("Put: error %d", why)
	}
	if free, why := heap.Free(h); free != 0 || why != api.OK {
		t.Errorf("Free: %d, error %d", free, why)
	}
	if after, why := heap.Drop(h, api.MaxBlocks-1); len(after.Cells) != 0 || after.Size != h.Size || why != api.OK {
		t.Errorf("Drop: %d cells, error %d", len(after.Cells), why)
	}
	h.Cells[len(h.Cells)-1].Refs = 0
	if after, why := heap.Sweep(h); len(after.Cells) != 0 || why != api.OK {
		t.Errorf("Sweep: %d cells, error %d", len(after.Cells), why)
	}
	last := h.Cells[1000]
	h.Cells = slices.Delete(h.Cells, 1001, len(h.Cells))
	if after, kid, why := heap.Put(h, table(kidOf(last))); kid.Num != 1003 || len(after.Cells) != 1002 || why != api.OK {
		t.Errorf("Put: %v, %d cells, error %d", kid, len(after.Cells), why)
	}
}

// roomy is a heap whose list has room behind it, for what must not be written there.
func roomy(h api.Heap) api.Heap {
	h.Cells = append(make([]api.Cell, 0, len(h.Cells)+4), h.Cells...)
	return h
}

type call struct {
	name string
	do   func(h api.Heap) api.Heap
}

// calls are all that answer a heap, with an error and without one.
func calls() []call {
	put := func(n api.Node) func(api.Heap) api.Heap {
		return func(h api.Heap) api.Heap {
			after, _, _ := heap.Put(h, n)
			return after
		}
	}
	at := func(do func(api.Heap, uint32) (api.Heap, api.Errno), num uint32) func(api.Heap) api.Heap {
		return func(h api.Heap) api.Heap {
			after, _ := do(h, num)
			return after
		}
	}
	return []call{
		{"Put", put(branch(kidOf(leafA)))},
		{"Put of what is there", put(leaf("A"))},
		{"Put of nothing", put(api.Node{})},
		{"Put of what leads nowhere", put(branch(api.Kid{Num: 3}))},
		{"Fill with nothing", func(h api.Heap) api.Heap {
			after, _ := heap.Fill(h, filled(nil, nil))
			return after
		}},
		{"Hold", at(heap.Hold, 2)},
		{"Hold of none", at(heap.Hold, 3)},
		{"Drop", at(heap.Drop, 15)},
		{"Drop of one of two", at(heap.Drop, 7)},
		{"Drop of none", at(heap.Drop, 3)},
		{"Drop of what is not held", at(heap.Drop, 5)},
		{"Sweep", func(h api.Heap) api.Heap {
			after, _ := heap.Sweep(h)
			return after
		}},
	}
}

// 6.4: what is handed in stays as it is, the room behind its list too.
func TestHandedInIsKept(t *testing.T) {
	for _, c := range calls() {
		h := roomy(sample())
		c.do(h)
		if !like(h, sample()) || h.Cells[:cap(h.Cells)][len(h.Cells)] != (api.Cell{}) {
			t.Errorf("%s: it was changed: %v", c.name, h.Cells[:cap(h.Cells)])
		}
	}
	n := branch(kidOf(leafA), kidOf(leafB))
	heap.Put(sample(), n)
	if !slices.Equal(n.Kids, branch(kidOf(leafA), kidOf(leafB)).Kids) {
		t.Errorf("Put: the node was changed: %v", n)
	}
}

// 6.4: an answer stays as it is, whatever becomes of what was handed in, and of other answers.
func TestNewMemory(t *testing.T) {
	for _, c := range calls() {
		h := roomy(sample())
		after := c.do(h)
		want := copied(after)
		for i := range h.Cells {
			h.Cells[i] = api.Cell{Data: "overwritten"}
		}
		if !like(after, want) {
			t.Errorf("%s: it changed with the argument: %v", c.name, after)
		}
		again := c.do(sample())
		for i := range after.Cells {
			after.Cells[i] = api.Cell{Data: "overwritten"}
		}
		if !like(again, want) {
			t.Errorf("%s: it changed with an earlier answer: %v", c.name, again)
		}
	}
	for _, c := range sample().Cells {
		first, _ := heap.Get(sample(), c.Num)
		for i := range first.Items {
			first.Items[i] = api.Item{}
		}
		for i := range first.Kids {
			first.Kids[i] = api.Kid{}
		}
		for i := range first.Volumes {
			first.Volumes[i] = api.Volume{}
		}
		if second, _ := heap.Get(sample(), c.Num); dataOf(second) != c.Data {
			t.Errorf("Get %d: it changed with an earlier answer: %v", c.Num, second)
		}
	}
}
