package grow_test

import (
	"math"
	"slices"
	"strings"
	"testing"

	"cambium/api"
	"cambium/grow"
	"cambium/hash"
	"cambium/heap"
	"cambium/node"
	"cambium/tree"
)

func wrongHeaps() []api.Heap {
	h, _ := planted(numbered(30))
	with := func(change func(h *api.Heap)) api.Heap {
		other := api.Heap{Size: h.Size, Cells: slices.Clone(h.Cells)}
		change(&other)
		return other
	}
	return []api.Heap{
		{},
		{Size: api.MinBlocks - 1},
		{Size: api.MaxBlocks + 1},
		with(func(h *api.Heap) { h.Size = 4 }),
		with(func(h *api.Heap) { h.Cells[0].Refs = 0 }),
		with(func(h *api.Heap) { h.Cells[0].Data += "x" }),
		with(func(h *api.Heap) { slices.Reverse(h.Cells) }),
		with(func(h *api.Heap) { h.Cells = h.Cells[1:] }),
	}
}

func wrongLists() [][]api.Item {
	return [][]api.Item{
		items(""),
		items("b", "a"),
		items("a", "a"),
		items("a", "b", strings.Repeat("k", api.MaxKey+1)),
		{{Key: "a", Val: strings.Repeat("v", api.MaxVal+1)}},
	}
}

func wrongChanges() [][]api.Change {
	return [][]api.Change{
		{{}},
		{{Key: "a", Val: "1"}},
		{{Key: "a", Has: true}, {Key: strings.Repeat("k", api.MaxKey+1)}},
		{{Key: "a", Has: true, Val: strings.Repeat("v", api.MaxVal+1)}},
	}
}

// wantRefused holds an answer against an error, with the heap as it was, and no Kid.
func wantRefused(t *testing.T, what string, after api.Heap, root api.Kid, why api.Errno, before api.Heap, want api.Errno) {
	t.Helper()
	if !like(after, before) || root != (api.Kid{}) || why != want {
		t.Errorf("%s: %d cells of %d, %v, error %d, not %d", what, len(after.Cells), len(before.Cells), root, why, want)
	}
}

// 8.1: that a heap is not right is answered first, and all else is zero.
func TestWrongHeaps(t *testing.T) {
	for _, h := range wrongHeaps() {
		for _, l := range append(wrongLists(), nil, items("a")) {
			after, root, why := grow.Build(h, l)
			wantRefused(t, "Build", after, root, why, api.Heap{}, api.ErrState)
		}
		for _, root := range []uint32{0, 1, 2, 100, math.MaxUint32} {
			for _, changes := range append(wrongChanges(), nil, put("a", "1")) {
				after, kid, why := grow.Change(h, root, changes)
				wantRefused(t, "Change", after, kid, why, api.Heap{}, api.ErrState)
			}
		}
	}
}

// full is a heap that has one leaf, held, and but some free blocks.
func full(free int) api.Heap {
	h, _, _ := grow.Build(api.Heap{Size: api.MinBlocks}, items("a"))
	h.Cells[0].Refs = 1
	for num := uint32(3); num < api.MinBlocks-uint32(free); num++ {
		data, _ := node.Encode(api.Node{Kind: api.NodeLeaf, Items: items("other", "other"+string(rune('a'+num)))})
		h.Cells = append(h.Cells, api.Cell{Num: num, Data: data, Refs: 1})
	}
	return h
}

// 8.1: a list that is not right changes nothing, be there room or not.
func TestWrongLists(t *testing.T) {
	used, _ := planted(numbered(30))
	for _, l := range wrongLists() {
		for _, h := range []api.Heap{empty(), used, full(0)} {
			after, root, why := grow.Build(h, l)
			wantRefused(t, "Build", after, root, why, h, api.ErrForm)
		}
		if n, why := grow.Need(l); n != 0 || why != api.ErrForm {
			t.Errorf("Need: %d, error %d", n, why)
		}
	}
}

// 8.1: where there is no room for the whole tree nothing is put; what the heap has already takes none.
func TestNoRoom(t *testing.T) {
	l := numbered(30)
	need, _ := grow.Need(l)
	if need < 6 || need > 12 {
		t.Fatalf("Need: %d", need)
	}
	for free := range need {
		after, root, why := grow.Build(full(free), l)
		wantRefused(t, "Build", after, root, why, full(free), api.ErrFull)
		after, root, why = grow.Change(full(free), 2, changesTo(items("a"), l))
		wantRefused(t, "Change", after, root, why, full(free), api.ErrFull)
	}
	if after, _, why := grow.Build(full(need), l); why != api.OK || len(after.Cells) != api.MinBlocks-2 {
		t.Errorf("Build into just enough room: error %d", why)
	}
	leaf := api.Kid{Num: 2, Hash: hash.Sum(full(0).Cells[0].Data)}
	if after, root, why := grow.Build(full(0), items("a")); !like(after, full(0)) || root != leaf || why != api.OK {
		t.Errorf("Build of what is there: %v, error %d", root, why)
	}
	if after, root, why := grow.Build(full(0), nil); !like(after, full(0)) || root != (api.Kid{}) || why != api.OK {
		t.Errorf("Build of nothing: %v, error %d", root, why)
	}
}

// 8.1: a cell that has as many Refs as it may is none to which one more leads; a root is led to by none.
func TestMostRefs(t *testing.T) {
	l := numbered(30)
	h, _ := planted(l)
	one := api.Heap{Size: h.Size, Cells: h.Cells[:1]}
	one.Cells[0].Refs = maxRefs
	after, root, why := grow.Build(one, l)
	wantRefused(t, "Build", after, root, why, one, api.ErrRange)
	after, root, why = grow.Change(one, 0, changesTo(nil, l))
	wantRefused(t, "Change", after, root, why, one, api.ErrRange)
	n, _ := node.Decode(one.Cells[0].Data)
	if after, root, why := grow.Build(one, n.Items); !like(after, one) || root.Num != 2 || why != api.OK {
		t.Errorf("Build of that leaf alone: %v, error %d", root, why)
	}
	// There is no room for the leaves behind it: that comes first.
	small := api.Heap{Size: api.MinBlocks, Cells: slices.Clone(full(0).Cells)}
	small.Cells[0] = one.Cells[0]
	after, root, why = grow.Build(small, l)
	wantRefused(t, "Build without room", after, root, why, small, api.ErrFull)
}

// 8.1: the tree's error comes ahead of the changes', and theirs ahead of what is to be put; the heap is as it was.
func TestChangeErrors(t *testing.T) {
	h, root := planted(numbered(30))
	h, table, why := heap.Put(h, api.Node{Kind: api.NodeTable})
	if why != api.OK {
		t.Fatalf("Put: error %d", why)
	}
	h, wrong, why := heap.Put(h, api.Node{Kind: api.NodeBranch, Kids: []api.Kid{{Key: "wrong", Num: root.Num, Hash: root.Hash}}})
	if why != api.OK {
		t.Fatalf("Put: error %d", why)
	}
	for i, x := range []struct {
		h       api.Heap
		root    uint32
		changes []api.Change
		want    api.Errno
	}{
		{h, 1, nil, api.ErrNone},
		{h, 999, put("a", "1"), api.ErrNone},
		{h, math.MaxUint32, put("a", "1"), api.ErrNone},
		{h, 999, wrongChanges()[0], api.ErrNone},
		{h, table.Num, nil, api.ErrBad},
		{h, wrong.Num, put("a", "1"), api.ErrBad},
		{h, wrong.Num, wrongChanges()[1], api.ErrBad},
		{h, 0, wrongChanges()[0], api.ErrForm},
		{h, root.Num, wrongChanges()[1], api.ErrForm},
		{h, root.Num, wrongChanges()[2], api.ErrForm},
		{h, root.Num, wrongChanges()[3], api.ErrForm},
		{full(0), 2, wrongChanges()[0], api.ErrForm},
		{full(0), 2, put("a", "1"), api.ErrFull},
	} {
		after, kid, why := grow.Change(x.h, x.root, x.changes)
		wantRefused(t, "Change", after, kid, why, x.h, x.want)
		if t.Failed() {
			t.Fatalf("case %d", i)
		}
	}
	if l, why := tree.All(h, root.Num); !slices.Equal(l, numbered(30)) || why != api.OK {
		t.Errorf("the tree is otherwise: error %d", why)
	}
}
