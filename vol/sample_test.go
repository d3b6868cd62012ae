package vol_test

import (
	"slices"
	"strconv"
	"strings"
	"testing"

	"cambium/api"
	"cambium/grow"
	"cambium/hash"
	"cambium/heap"
	"cambium/node"
	"cambium/vol"
)

const maxRefs = api.MaxBlocks * 256

// like tells if two heaps are one: nil and empty lists are alike.
func like(a, b api.Heap) bool {
	return a.Size == b.Size && slices.Equal(a.Cells, b.Cells)
}

func copied(h api.Heap) api.Heap {
	h.Cells = slices.Clone(h.Cells)
	return h
}

// withRefs is a heap of which one cell has so many Refs.
func withRefs(h api.Heap, num uint32, refs int) api.Heap {
	h = copied(h)
	for i := range h.Cells {
		if h.Cells[i].Num == num {
			h.Cells[i].Refs = refs
		}
	}
	return h
}

func letters(n int) string {
	return strings.Repeat("k", n)
}

// items are n, whose Vals begin with a mark.
func items(n int, mark string) []api.Item {
	var l []api.Item
	for i := range n {
		l = append(l, api.Item{Key: strconv.Itoa(1000 + i), Val: mark + letters(i%50)})
	}
	return l
}

// built is a heap with the tree of items, and its root.
func built(t *testing.T, h api.Heap, l []api.Item) (api.Heap, api.Kid) {
	t.Helper()
	h, root, why := grow.Build(h, l)
	if why != api.OK {
		t.Fatalf("Build: error %d", why)
	}
	return h, root
}

// tabled is a heap with a table, held so often.
func tabled(t *testing.T, h api.Heap, held int, vols ...api.Volume) (api.Heap, api.Kid) {
	t.Helper()
	h, table, why := heap.Put(h, api.Node{Kind: api.NodeTable, Volumes: vols})
	for range held {
		if why == api.OK {
			h, why = heap.Hold(h, table.Num)
		}
	}
	if why != api.OK {
		t.Fatalf("Put and Hold: error %d", why)
	}
	return h, table
}

// volOf is a volume whose tree has that root.
func volOf(name string, kind api.VolKind, from string, born uint64, root api.Kid) api.Volume {
	return api.Volume{Name: name, Kind: kind, From: from, Born: born, Root: root.Num, Hash: root.Hash}
}

// sampleItems are what the sample's volumes have.
func sampleItems() map[string][]api.Item {
	return map[string][]api.Item{"b": items(60, "b"), "c": items(7, "c"), "e": nil, "s": items(60, "b")}
}

// sample has the branches b and c, e that has nothing, and s, a snapshot of b; b was made of c, c of e, e of what is no more.
func sample(t *testing.T) (api.Heap, api.Kid) {
	t.Helper()
	return heldSample(t, 1)
}

// heldSample is the sample with its table held so often.
func heldSample(t *testing.T, held int) (api.Heap, api.Kid) {
	t.Helper()
	h, b := built(t, api.Heap{Size: 256}, sampleItems()["b"])
	h, c := built(t, h, sampleItems()["c"])
	return tabled(t, h, held, volOf("b", api.VolBranch, "c", 7, b), volOf("c", api.VolBranch, "e", 6, c),
		volOf("e", api.VolBranch, "gone", 5, api.Kid{}), volOf("s", api.VolSnap, "b", 8, b))
}

func volumes(t *testing.T, h api.Heap, table api.Kid) []api.Volume {
	t.Helper()
	vols, why := vol.List(h, table)
	if why != api.OK {
		t.Fatalf("List: error %d", why)
	}
	return vols
}

// with are volumes, and one more, or in place of the one of its name.
func with(vols []api.Volume, v api.Volume) []api.Volume {
	out := append(without(vols, v.Name), v)
	slices.SortFunc(out, func(a, b api.Volume) int { return strings.Compare(a.Name, b.Name) })
	return out
}

func without(vols []api.Volume, name string) []api.Volume {
	return slices.DeleteFunc(slices.Clone(vols), func(v api.Volume) bool { return v.Name == name })
}

// otherwise has a table be otherwise, call by call.
func otherwise(t *testing.T, h api.Heap, old api.Kid, vols []api.Volume) (api.Heap, api.Kid) {
	t.Helper()
	h, table := tabled(t, h, 1, vols...)
	h, dropped := heap.Drop(h, old.Num)
	h, swept := heap.Sweep(h)
	if dropped != api.OK || swept != api.OK {
		t.Fatalf("Drop: error %d, Sweep: error %d", dropped, swept)
	}
	return h, table
}

// answer is what a call that changes a table answers.
type answer struct {
	heap  api.Heap
	table api.Kid
	why   api.Errno
}

func answered(h api.Heap, table api.Kid, why api.Errno) answer {
	return answer{h, table, why}
}

// want asks for a heap and a table.
func (a answer) want(t *testing.T, what string, h api.Heap, table api.Kid) {
	t.Helper()
	if !like(a.heap, h) || a.table != table || a.why != api.OK {
		t.Errorf("%s: the heap %v, the table %v, error %d, not %v, %v", what, numbers(a.heap), a.table, a.why, numbers(h), table)
	}
}

// wantRefused asks for heap and table as they were.
func (a answer) wantRefused(t *testing.T, what string, h api.Heap, table api.Kid, why api.Errno) {
	t.Helper()
	if !like(a.heap, h) || a.table != table || a.why != why {
		t.Errorf("%s: the heap %v, the table %v, error %d, not %v, %v, %d", what, numbers(a.heap), a.table, a.why, numbers(h), table, why)
	}
}

// numbers tells of a heap what may be read.
func numbers(h api.Heap) []int {
	var out []int
	for _, c := range h.Cells {
		out = append(out, int(c.Num), c.Refs)
	}
	return out
}

// cellOf is one of a node that may be no tree's.
func cellOf(t *testing.T, num uint32, n api.Node, refs int) api.Cell {
	t.Helper()
	data, why := node.Encode(n)
	if why != api.OK {
		t.Fatalf("Encode: error %d", why)
	}
	return api.Cell{Num: num, Data: data, Refs: refs}
}

func kidOf(c api.Cell) api.Kid {
	return api.Kid{Num: c.Num, Hash: hash.Sum(c.Data)}
}
