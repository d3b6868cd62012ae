package vol_test

import (
	"math"
	"testing"

	"cambium/api"
	"cambium/dirs"
	"cambium/grow"
	"cambium/heap"
	"cambium/tree"
	"cambium/vol"
)

// wantError asks for a call of all functions to be refused: none of them answers anything else ahead of that.
func wantError(t *testing.T, what string, h api.Heap, table api.Kid, then api.Heap, thenTable api.Kid, want api.Errno) {
	t.Helper()
	if vols, why := vol.List(h, table); vols != nil || why != want {
		t.Errorf("%s: List: %v, error %d, not %d", what, vols, why, want)
	}
	for _, name := range []string{"b", "none", "", "s", letters(1000)} {
		if l, why := vol.Items(h, table, name); l != nil || why != want {
			t.Errorf("%s: Items of %q: %v, error %d, not %d", what, name, l, why, want)
		}
		if names, why := vol.Log(h, table, name); names != nil || why != want {
			t.Errorf("%s: Log of %q: %v, error %d, not %d", what, name, names, why, want)
		}
		answered(vol.Edit(h, table, name, []api.Change{{}})).wantRefused(t, what+": Edit", then, thenTable, want)
		answered(vol.Add(h, table, name, letters(1000), []api.Item{{}}, 1)).wantRefused(t, what+": Add", then, thenTable, want)
		for kind := range api.VolOpCount + 2 {
			answered(vol.Do(h, table, api.VolOp{Kind: kind, Name: name}, 1)).wantRefused(t, what+": Do", then, thenTable, want)
		}
	}
}

// 16.1: a heap that is not right is told first, all else being zero.
func TestWrongHeaps(t *testing.T) {
	h, table := sample(t)
	for what, spoil := range map[string]func(h *api.Heap){
		"no Size":       func(h *api.Heap) { h.Size = 0 },
		"too small":     func(h *api.Heap) { h.Size = api.MinBlocks - 1 },
		"too great":     func(h *api.Heap) { h.Size = api.MaxBlocks + 1 },
		"no data":       func(h *api.Heap) { h.Cells[0].Data = "" },
		"fewer Refs":    func(h *api.Heap) { h.Cells[0].Refs = 0 },
		"a cell twice":  func(h *api.Heap) { h.Cells[1] = h.Cells[0] },
		"a cell is not": func(h *api.Heap) { h.Cells = h.Cells[1:] },
	} {
		wrong := copied(h)
		spoil(&wrong)
		for _, kid := range []api.Kid{table, {}, {Key: "a", Num: table.Num}, {Num: math.MaxUint32}} {
			wantError(t, what, wrong, kid, api.Heap{}, api.Kid{}, api.ErrState)
		}
	}
	wantError(t, "nothing", api.Heap{}, api.Kid{}, api.Heap{}, api.Kid{}, api.ErrState)
}

// 16.1: then a table that is none; heap and table are as they were.
func TestWrongTables(t *testing.T) {
	h, table := sample(t)
	other := table
	other.Hash[31] ^= 1
	keyed := table
	keyed.Key = "a"
	both := other
	both.Key = "a"
	leaf := kidOf(h.Cells[0])
	wrongLeaf := api.Kid{Num: leaf.Num, Hash: table.Hash}
	for what, kid := range map[string]api.Kid{"another Hash": other, "no Hash": {Num: table.Num}, "a Key": keyed, "both": both, "a leaf": leaf, "a leaf, and another Hash": wrongLeaf} {
		wantError(t, what, h, kid, h, kid, api.ErrBad)
	}
	for _, num := range []uint32{0, 1, table.Num + 1, 255, 256, math.MaxUint32} {
		for _, kid := range []api.Kid{{Num: num}, {Num: num, Hash: table.Hash}, {Key: "a", Num: num, Hash: table.Hash}} {
			wantError(t, "no cell", h, kid, h, kid, api.ErrNone)
		}
	}
	n, _ := heap.Get(h, volumes(t, h, table)[0].Root)
	if n.Kind != api.NodeBranch {
		t.Fatalf("the root of b is of kind %d", n.Kind)
	}
	root := volumes(t, h, table)[0]
	branch := api.Kid{Num: root.Root, Hash: root.Hash}
	wantError(t, "a branch", h, branch, h, branch, api.ErrBad)
}

// 16.1, 16.2: a volume whose tree is not right can be told, logged, and made others of, but has no items.
func TestWrongTrees(t *testing.T) {
	leaf := cellOf(t, 2, api.Node{Kind: api.NodeLeaf, Items: items(1, "a")}, 1)
	kid := kidOf(leaf)
	kid.Key = "other"
	branch := cellOf(t, 3, api.Node{Kind: api.NodeBranch, Kids: []api.Kid{kid}}, 1)
	inner := cellOf(t, 4, api.Node{Kind: api.NodeTable}, 1)
	v, w := volOf("v", api.VolBranch, "", 0, kidOf(branch)), volOf("w", api.VolBranch, "", 0, kidOf(inner))
	root := cellOf(t, 5, api.Node{Kind: api.NodeTable, Volumes: []api.Volume{v, w}}, 1)
	h, table := api.Heap{Size: api.MinBlocks, Cells: []api.Cell{leaf, branch, inner, root}}, kidOf(root)
	for _, name := range []string{"v", "w"} {
		if l, why := vol.Items(h, table, name); l != nil || why != api.ErrBad {
			t.Errorf("Items of %s: %v, error %d", name, l, why)
		}
		answered(vol.Edit(h, table, name, nil)).wantRefused(t, "Edit", h, table, api.ErrBad)
		answered(vol.Edit(h, table, name, []api.Change{{}})).wantRefused(t, "Edit", h, table, api.ErrBad)
		from, why := vol.List(h, table)
		if len(from) != 2 || why != api.OK {
			t.Errorf("List: %v, error %d", from, why)
		}
		then, thenTable := otherwise(t, h, table, with(from, volOf("x", api.VolSnap, name, 9, api.Kid{Num: from[int(name[0]-'v')].Root, Hash: from[int(name[0]-'v')].Hash})))
		answered(vol.Do(h, table, api.VolOp{Kind: api.VolOpSnap, Name: "x", From: name}, 9)).want(t, "a snapshot", then, thenTable)
	}
}

// full is a heap of the sample's volumes of which just so many blocks are free.
func full(t *testing.T, free int) (api.Heap, api.Kid) {
	t.Helper()
	h, table := sample(t)
	h.Size = uint32(len(h.Cells) + 2 + free)
	return h, table
}

// 16.2, 16.3: ErrFull, if there is no room for the tree and for the table; then nothing is otherwise.
func TestNoRoom(t *testing.T) {
	l := items(9, "other")
	need, _ := grow.Need(l)
	all := []api.Change{}
	for _, x := range l {
		all = append(all, api.Change{Key: x.Key, Has: true, Val: x.Val})
	}
	for what, x := range map[string]struct {
		need int
		call func(h api.Heap, table api.Kid) answer
	}{
		"make": {2, func(h api.Heap, table api.Kid) answer {
			return answered(vol.Do(h, table, api.VolOp{Kind: api.VolOpMake, Name: "n"}, 1))
		}},
		"snap": {1, func(h api.Heap, table api.Kid) answer {
			return answered(vol.Do(h, table, api.VolOp{Kind: api.VolOpSnap, Name: "n", From: "b"}, 1))
		}},
		"clone": {1, func(h api.Heap, table api.Kid) answer {
			return answered(vol.Do(h, table, api.VolOp{Kind: api.VolOpClone, Name: "n", From: "s"}, 1))
		}},
		"roll": {1, func(h api.Heap, table api.Kid) answer {
			return answered(vol.Do(h, table, api.VolOp{Kind: api.VolOpRoll, Name: "b", From: "c"}, 1))
		}},
		"delete": {1, func(h api.Heap, table api.Kid) answer {
			return answered(vol.Do(h, table, api.VolOp{Kind: api.VolOpDelete, Name: "b"}, 1))
		}},
		"add":  {need + 1, func(h api.Heap, table api.Kid) answer { return answered(vol.Add(h, table, "n", "", l, 1)) }},
		"edit": {need + 1, func(h api.Heap, table api.Kid) answer { return answered(vol.Edit(h, table, "e", all)) }},
		"the same": {0, func(h api.Heap, table api.Kid) answer {
			return answered(vol.Do(h, table, api.VolOp{Kind: api.VolOpRoll, Name: "b", From: "s"}, 1))
		}},
	} {
		for free := range x.need {
			h, table := full(t, free)
			x.call(h, table).wantRefused(t, what, h, table, api.ErrFull)
		}
		h, table := full(t, x.need)
		if a := x.call(h, table); a.why != api.OK || heap.Check(a.heap) != api.OK {
			t.Errorf("%s, with as many blocks as it needs: error %d", what, a.why)
		}
	}
}

// 16.2, 16.3: ErrRange, if a cell to which one leads, or the table, would have too many Refs.
func TestTooManyRefs(t *testing.T) {
	h, table := sample(t)
	b, s := volumes(t, h, table)[0], api.VolOp{Kind: api.VolOpSnap, Name: "n", From: "b"}
	most := func(num uint32) api.Heap { return withRefs(h, num, maxRefs) }
	roots := most(b.Root)
	answered(vol.Do(roots, table, s, 1)).wantRefused(t, "a root", roots, table, api.ErrRange)
	answered(vol.Edit(roots, table, "c", []api.Change{{Key: "a", Has: true}})).wantRefused(t, "a root", roots, table, api.ErrRange)
	tables := most(table.Num)
	answered(vol.Edit(tables, table, "c", nil)).wantRefused(t, "the table", tables, table, api.ErrRange)
	changes, refused := []api.Change{{Key: "9", Has: true}}, 0
	blocks, _ := tree.Blocks(h, b.Root)
	for _, num := range blocks {
		below := most(num)
		if _, _, why := grow.Change(below, b.Root, changes); why == api.ErrRange {
			answered(vol.Edit(below, table, "b", changes)).wantRefused(t, "a block below", below, table, api.ErrRange)
			refused++
		}
	}
	if refused == 0 {
		t.Error("no block below is led to by the changed tree")
	}
	fresh, root := built(t, h, dirs.New())
	fresh = withRefs(fresh, root.Num, maxRefs)
	answered(vol.Do(fresh, table, api.VolOp{Kind: api.VolOpMake, Name: "n"}, 1)).wantRefused(t, "a new root", fresh, table, api.ErrRange)
}
