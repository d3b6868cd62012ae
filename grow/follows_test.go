package grow_test

import (
	"slices"
	"strconv"
	"testing"

	"cambium/api"
	"cambium/grow"
	"cambium/heap"
	"cambium/item"
	"cambium/node"
	"cambium/tree"
)

func put(key, val string) []api.Change {
	return []api.Change{{Key: key, Has: true, Val: val}}
}

func drop(key string) []api.Change {
	return []api.Change{{Key: key}}
}

// changesTo are those that make the one list of the other.
func changesTo(from, to []api.Item) []api.Change {
	changes, why := item.Diff(from, to)
	if why != api.OK {
		panic("a list is not right")
	}
	return changes
}

// build is Build where it is no matter of the test.
func build(t *testing.T, h api.Heap, l []api.Item) (api.Heap, api.Kid) {
	t.Helper()
	after, root, why := grow.Build(h, l)
	if why != api.OK {
		t.Fatalf("Build: error %d", why)
	}
	return after, root
}

// 8.1: a changed tree is the tree of what is there then; what it shares with the one that was is put once.
func TestChange(t *testing.T) {
	l := numbered(300)
	h, root := build(t, empty(), l)
	for i, changes := range [][]api.Change{
		nil,
		put("0100", "other"),
		put("0100", l[100].Val),
		put("0", "first"),
		put("zz", "last"),
		put("0100x", "between"),
		drop("0000"),
		drop("0299"),
		drop("0150"),
		drop("none"),
		append(put("0100", "other"), put("0100", l[100].Val)...),
		append(drop("0100"), append(put("0100", "other"), drop("0101")...)...),
		changesTo(l, nil),
		changesTo(l, items("a")),
		changesTo(l, numbered(500)),
		changesTo(l, numbered(17)),
	} {
		then, _ := item.Apply(l, changes)
		want, wantRoot := build(t, h, then)
		after, kid, why := grow.Change(h, root.Num, changes)
		if !like(after, want) || kid != wantRoot || why != api.OK {
			t.Errorf("%d: Change: %d cells, not %d; %v, not %v; error %d", i, len(after.Cells), len(want.Cells), kid, wantRoot, why)
		}
		if len(changes) == 1 && len(after.Cells) > len(h.Cells)+8 {
			t.Errorf("%d: Change: %d cells of %d", i, len(after.Cells), len(h.Cells))
		}
	}
	if after, kid, why := grow.Change(h, 0, nil); !like(after, h) || kid != (api.Kid{}) || why != api.OK {
		t.Errorf("Change of nothing: %v, error %d", kid, why)
	}
	if after, kid, why := grow.Change(h, 0, changesTo(nil, l)); !like(after, h) || kid != root || why != api.OK {
		t.Errorf("Change of nothing to all: %v, error %d", kid, why)
	}
}

// 8.1: a tree that is right, but cut in another way, is changed to the one that Build makes.
func TestChangeOfOtherTree(t *testing.T) {
	h, low, _ := heap.Put(empty(), api.Node{Kind: api.NodeLeaf, Items: items("a")})
	h, high, _ := heap.Put(h, api.Node{Kind: api.NodeLeaf, Items: items("b")})
	low.Key, high.Key = "a", "b"
	h, root, _ := heap.Put(h, api.Node{Kind: api.NodeBranch, Kids: []api.Kid{low, high}})
	want, wantRoot := build(t, h, items("a", "b"))
	if after, kid, why := grow.Change(h, root.Num, nil); !like(after, want) || kid != wantRoot || why != api.OK {
		t.Errorf("Change: %v, not %v, error %d", kid, wantRoot, why)
	}
}

// 8.2: a tree needs as many blocks as it has nodes.
func TestNeed(t *testing.T) {
	for i, l := range lists() {
		want, root := planted(l)
		n, why := grow.Need(l)
		if n != len(want.Cells) || why != api.OK {
			t.Errorf("%d: Need: %d, not %d, error %d", i, n, len(want.Cells), why)
		}
		if blocks, why := tree.Blocks(want, root.Num); len(blocks) != n || why != api.OK {
			t.Errorf("%d: it has %d blocks, not %d, error %d", i, len(blocks), n, why)
		}
	}
}

// 8.4: what is built is read as it was.
func TestRead(t *testing.T) {
	for i, l := range lists() {
		h, root := build(t, empty(), l)
		if got, why := tree.All(h, root.Num); !slices.Equal(got, l) || why != api.OK {
			t.Errorf("%d: All: %d items, not %d, error %d", i, len(got), len(l), why)
		}
		if n, why := tree.Levels(h, root.Num); n != len(levels(l)) || why != api.OK {
			t.Errorf("%d: Levels: %d, error %d", i, n, why)
		}
	}
}

// edit is a list with some keys changed, and what was changed.
func (x *choices) edit(l []api.Item) ([]api.Item, []api.Change) {
	var changes []api.Change
	for range x.below(5) {
		switch key := x.key(l); x.below(3) {
		case 0:
			changes = append(changes, drop(key)...)
		default:
			changes = append(changes, put(key, numbered(200)[x.below(200)].Val)...)
		}
	}
	after, why := item.Apply(l, changes)
	if why != api.OK {
		panic("a change is not right")
	}
	return after, changes
}

// key is one that a list has, or another one.
func (x *choices) key(l []api.Item) string {
	if len(l) > 0 && x.below(4) > 0 {
		return l[x.below(len(l))].Key
	}
	return "0" + string([]byte{byte(x.below(256)), byte(x.below(256))})
}

// 8.4 to 8.6: whatever way items came, in one heap they are one root; the trees that were there before stay as they are.
func TestManyChanges(t *testing.T) {
	x := choices(5)
	h, first := build(t, empty(), numbered(60))
	lists := [][]api.Item{nil, numbered(60)}
	roots := []api.Kid{{}, first}
	for i := range 60 {
		from := len(lists) - 1
		if x.below(3) == 0 {
			from = x.below(len(lists))
		}
		l, changes := x.edit(lists[from])
		before := h
		after, root, why := grow.Change(h, roots[from].Num, changes)
		if why != api.OK {
			t.Fatalf("Change: error %d", why)
		}
		h = after
		wantKept(t, before, h)
		if same, kid := build(t, h, l); !like(same, h) || kid != root {
			t.Fatalf("step %d: Build: %v, Change: %v", i, kid, root)
		}
		need, _ := grow.Need(l)
		if blocks, why := tree.Blocks(h, root.Num); len(blocks) != need || why != api.OK {
			t.Fatalf("step %d: the tree has %d blocks, not %d, error %d", i, len(blocks), need, why)
		}
		if again, back, why := grow.Change(h, root.Num, changesTo(l, lists[from])); !like(again, h) || back != roots[from] || why != api.OK {
			t.Fatalf("step %d: changed back it is %v, not %v, error %d", i, back, roots[from], why)
		}
		lists, roots = append(lists, l), append(roots, root)
	}
	for i, root := range roots {
		if l, why := tree.All(h, root.Num); !slices.Equal(l, lists[i]) || why != api.OK {
			t.Errorf("All of tree %d: %d items, not %d, error %d", i, len(l), len(lists[i]), why)
		}
	}
}

// wantKept holds a heap against what it was: each cell has what it had, and is held as often.
func wantKept(t *testing.T, before, after api.Heap) {
	t.Helper()
	if why := heap.Check(after); why != api.OK {
		t.Fatalf("error %d", why)
	}
	has := map[uint32]string{}
	for _, c := range after.Cells {
		has[c.Num] = c.Data
	}
	for _, c := range before.Cells {
		if has[c.Num] != c.Data {
			t.Fatalf("the cell %d is otherwise", c.Num)
		}
	}
}

// 8.6: trees that are held stay held as often, and what is not is swept, when another one is built.
func TestHeldApart(t *testing.T) {
	h, kept := build(t, empty(), numbered(100))
	h, _ = heap.Hold(h, kept.Num)
	changed, other, _ := grow.Change(h, kept.Num, put("0050", "other"))
	if n, why := heap.Held(changed, kept.Num); n != 1 || why != api.OK {
		t.Errorf("Held: %d, error %d", n, why)
	}
	if n, why := heap.Held(changed, other.Num); n != 0 || why != api.OK {
		t.Errorf("Held of the changed one: %d, error %d", n, why)
	}
	if swept, why := heap.Sweep(changed); !like(swept, h) || why != api.OK {
		t.Errorf("Sweep: %d cells, not %d, error %d", len(swept.Cells), len(h.Cells), why)
	}
}

// crowded is a heap of other leaves, of which some blocks, anywhere, are free.
func (x *choices) crowded(size, free int) api.Heap {
	h := api.Heap{Size: uint32(size)}
	for num := 2; num < size; num++ {
		data, _ := node.Encode(api.Node{Kind: api.NodeLeaf, Items: items("other " + strconv.Itoa(num))})
		h.Cells = append(h.Cells, api.Cell{Num: uint32(num), Data: data})
	}
	for range free {
		at := x.below(len(h.Cells))
		h.Cells = slices.Delete(h.Cells, at, at+1)
	}
	return h
}

// 8.7: with as many free blocks as are needed there is room, wherever they are; with one less there is none, if nothing is shared.
func TestRoom(t *testing.T) {
	x := choices(3)
	for i, l := range lists() {
		need, _ := grow.Need(l)
		for _, others := range []int{0, 1, 20} {
			h := x.crowded(max(need+2+others, api.MinBlocks), need)
			if free, why := heap.Free(h); free != need || why != api.OK {
				t.Fatalf("%d: Free: %d, not %d, error %d", i, free, need, why)
			}
			after, root := build(t, h, l)
			if got, why := tree.All(after, root.Num); !slices.Equal(got, l) || len(after.Cells) != int(h.Size)-2 || why != api.OK {
				t.Errorf("%d: All: %d items, error %d", i, len(got), why)
			}
			if need == 0 {
				continue
			}
			less := x.crowded(max(need+1+others, api.MinBlocks), need-1)
			after, root, why := grow.Build(less, l)
			wantRefused(t, "Build", after, root, why, less, api.ErrFull)
		}
	}
}

// answer is a call that is handed a heap, a list or changes.
type answer func(h api.Heap, l []api.Item, changes []api.Change) (api.Heap, api.Kid, api.Errno)

func ofBuild(h api.Heap, l []api.Item, _ []api.Change) (api.Heap, api.Kid, api.Errno) {
	return grow.Build(h, l)
}

func ofChange(root uint32) answer {
	return func(h api.Heap, _ []api.Item, changes []api.Change) (api.Heap, api.Kid, api.Errno) {
		return grow.Change(h, root, changes)
	}
}

// 8.3: what is handed in stays as it is, the room behind it too; an answer changes with nothing.
func TestNewMemory(t *testing.T) {
	kept, root := planted(numbered(30))
	l, changes := numbered(40), changesTo(numbered(30), numbered(40))
	wanted, wantRoot := build(t, kept, l)
	for i, x := range []struct {
		do      answer
		l       []api.Item
		changes []api.Change
		want    api.Heap
		root    api.Kid
	}{
		{ofBuild, l, nil, wanted, wantRoot},
		{ofBuild, nil, nil, kept, api.Kid{}},
		{ofBuild, items("b", "a"), nil, kept, api.Kid{}},
		{ofChange(root.Num), nil, changes, wanted, wantRoot},
		{ofChange(root.Num), nil, nil, kept, root},
		{ofChange(root.Num), nil, drop(""), kept, api.Kid{}},
		{ofChange(999), nil, changes, kept, api.Kid{}},
	} {
		h := api.Heap{Size: kept.Size, Cells: append(make([]api.Cell, 0, 99), kept.Cells...)}
		handed, others := append(make([]api.Item, 0, 99), x.l...), append(make([]api.Change, 0, 99), x.changes...)
		after, kid, _ := x.do(h, handed, others)
		if !slices.Equal(h.Cells, kept.Cells) || !slices.Equal(handed, x.l) || !slices.Equal(others, x.changes) {
			t.Errorf("%d: what was handed in was changed", i)
		}
		if h.Cells[:99][len(h.Cells)] != (api.Cell{}) || handed[:99][len(x.l)] != (api.Item{}) || others[:99][len(x.changes)] != (api.Change{}) {
			t.Errorf("%d: the room behind what was handed in was changed", i)
		}
		clear(h.Cells)
		clear(handed)
		clear(others)
		if !like(after, x.want) || kid != x.root {
			t.Errorf("%d: the answer changed with what was handed in", i)
		}
		clear(after.Cells)
		if later, _, _ := x.do(kept, x.l, x.changes); !like(later, x.want) {
			t.Errorf("%d: an answer changed with an earlier one", i)
		}
	}
	handed := slices.Clone(l)
	grow.Need(handed)
	if !slices.Equal(handed, l) {
		t.Errorf("Need: the list was changed")
	}
}
