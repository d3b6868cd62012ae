package delta_test

import (
	"slices"
	"strconv"
	"strings"
	"testing"

	"cambium/api"
	"cambium/delta"
	"cambium/grow"
	"cambium/heap"
	"cambium/item"
	"cambium/tree"
)

// items has some, from one number up to another, with a mark in what is kept.
func items(from, to int, mark string) []api.Item {
	var l []api.Item
	for i := from; i < to; i++ {
		l = append(l, api.Item{Key: strconv.Itoa(10000 + i), Val: mark + strconv.Itoa(i)})
	}
	return l
}

// grown puts the tree of items into a heap, and holds it.
func grown(t *testing.T, h api.Heap, l []api.Item) (api.Heap, uint32) {
	t.Helper()
	h, root, why := grow.Build(h, l)
	if why != api.OK {
		t.Fatalf("Build: error %d", why)
	}
	if root.Num == 0 {
		return h, 0
	}
	h, why = heap.Hold(h, root.Num)
	if why != api.OK {
		t.Fatalf("Hold: error %d", why)
	}
	return h, root.Num
}

// put puts a node into a heap.
func put(t *testing.T, h api.Heap, n api.Node) (api.Heap, api.Kid) {
	t.Helper()
	h, k, why := heap.Put(h, n)
	if why != api.OK {
		t.Fatalf("Put: error %d", why)
	}
	return h, k
}

// alone counts the blocks of just one of two trees, each block for itself.
func alone(h api.Heap, a, b uint32) int {
	was, _ := tree.Blocks(h, a)
	now, _ := tree.Blocks(h, b)
	n := 0
	for num := range h.Size {
		if slices.Contains(was, num) != slices.Contains(now, num) {
			n++
		}
	}
	return n
}

func wantTrees(t *testing.T, what string, h api.Heap, a, b uint32, want []api.Change) {
	t.Helper()
	if got, why := delta.Changes(h, a, b); why != api.OK || !slices.Equal(got, want) {
		t.Errorf("%s: Changes: %v, error %d, not %v", what, got, why, want)
	}
	if n, why := delta.Read(h, a, b); why != api.OK || n != alone(h, a, b) {
		t.Errorf("%s: Read: %d, error %d, not %d", what, n, why, alone(h, a, b))
	}
}

// 17.1: the changes that make one tree of another, and how many blocks are of just one of them.
func TestTrees(t *testing.T) {
	h := api.Heap{Size: 1024}
	l := items(0, 200, "v")
	h, whole := grown(t, h, l)
	h, less := grown(t, h, l[:199])
	h, other := grown(t, h, append(items(0, 1, "w"), l[1:]...))
	h, far := grown(t, h, items(500, 510, "v"))
	wantTrees(t, "nothing and nothing", h, 0, 0, nil)
	wantTrees(t, "itself", h, whole, whole, nil)
	wantTrees(t, "one less", h, whole, less, []api.Change{{Key: l[199].Key}})
	wantTrees(t, "one more", h, less, whole, []api.Change{{Key: l[199].Key, Has: true, Val: l[199].Val}})
	wantTrees(t, "another value", h, whole, other, []api.Change{{Key: l[0].Key, Has: true, Val: "w0"}})
	wantTrees(t, "and back", h, other, whole, []api.Change{{Key: l[0].Key, Has: true, Val: "v0"}})
	var made, gone []api.Change
	for _, x := range l {
		made = append(made, api.Change{Key: x.Key, Has: true, Val: x.Val})
		gone = append(gone, api.Change{Key: x.Key})
	}
	wantTrees(t, "nothing and all", h, 0, whole, made)
	wantTrees(t, "all and nothing", h, whole, 0, gone)
	apart, _ := item.Diff(l, items(500, 510, "v"))
	wantTrees(t, "nothing in common", h, whole, far, apart)
}

// 17.1: what trees have in common is not read.
func TestReadIsFewBlocks(t *testing.T) {
	h := api.Heap{Size: 1024}
	l := items(0, 1000, strings.Repeat("v", 40))
	h, a := grown(t, h, l)
	l[500].Val = "other"
	h, b := grown(t, h, l)
	blocks, _ := tree.Blocks(h, a)
	levels, _ := tree.Levels(h, a)
	n, why := delta.Read(h, a, b)
	if why != api.OK || n == 0 || n > 4*levels || 2*n > len(blocks) {
		t.Errorf("Read: %d of %d blocks in %d levels, error %d", n, len(blocks), levels, why)
	}
	if whole, _ := delta.Read(h, a, 0); whole != len(blocks) {
		t.Errorf("Read of a tree and nothing: %d, not %d", whole, len(blocks))
	}
}

// 17.1: a tree below another one shares all its blocks: those above it are the other's alone.
func TestTreeBelowAnother(t *testing.T) {
	h := api.Heap{Size: 64}
	h, low := put(t, h, api.Node{Kind: api.NodeLeaf, Items: items(0, 3, "v")})
	low.Key = items(0, 1, "")[0].Key
	h, high := put(t, h, api.Node{Kind: api.NodeBranch, Kids: []api.Kid{low}})
	high.Key = low.Key
	h, higher := put(t, h, api.Node{Kind: api.NodeBranch, Kids: []api.Kid{high}})
	for _, x := range []struct {
		a, b uint32
		want int
	}{{low.Num, high.Num, 1}, {high.Num, low.Num, 1}, {low.Num, higher.Num, 2}, {higher.Num, high.Num, 1}, {0, higher.Num, 3}} {
		n, why := delta.Read(h, x.a, x.b)
		changes, no := delta.Changes(h, x.a, x.b)
		if n != x.want || why != api.OK || no != api.OK || (len(changes) == 0) != (x.a != 0) {
			t.Errorf("%v: Read: %d, error %d; Changes: %v, error %d", x, n, why, changes, no)
		}
	}
}

func wantNoTrees(t *testing.T, what string, h api.Heap, a, b uint32, want api.Errno) {
	t.Helper()
	if got, why := delta.Changes(h, a, b); got != nil || why != want {
		t.Errorf("%s: Changes: %v, error %d, not %d", what, got, why, want)
	}
	if n, why := delta.Read(h, a, b); n != 0 || why != want {
		t.Errorf("%s: Read: %d, error %d, not %d", what, n, why, want)
	}
}

// 17.1: the first tree's error, then the second one's.
func TestWrongTrees(t *testing.T) {
	h, right := grown(t, api.Heap{Size: 64}, items(0, 20, "v"))
	h, table := put(t, h, api.Node{Kind: api.NodeTable})
	const none, beyond = 60, 1 << 20
	for _, x := range []struct {
		a, b uint32
		want api.Errno
	}{
		{right, none, api.ErrNone}, {none, right, api.ErrNone}, {0, none, api.ErrNone}, {none, 0, api.ErrNone}, {none, none, api.ErrNone},
		{right, 1, api.ErrNone}, {1, right, api.ErrNone}, {right, beyond, api.ErrNone}, {beyond, right, api.ErrNone},
		{right, table.Num, api.ErrBad}, {table.Num, right, api.ErrBad}, {table.Num, 0, api.ErrBad}, {table.Num, table.Num, api.ErrBad},
		{none, table.Num, api.ErrNone}, {table.Num, none, api.ErrBad},
	} {
		wantNoTrees(t, strconv.Itoa(int(x.a))+" and "+strconv.Itoa(int(x.b)), h, x.a, x.b, x.want)
	}
}

// 17.1: ahead of all the heap's error.
func TestWrongHeaps(t *testing.T) {
	h, right := grown(t, api.Heap{Size: 64}, items(0, 20, "v"))
	spoilt := api.Heap{Size: 64, Cells: slices.Clone(h.Cells)}
	spoilt.Cells[0].Data = "spoilt"
	small := api.Heap{Size: api.MinBlocks - 1}
	lone := api.Heap{Size: 64, Cells: slices.DeleteFunc(slices.Clone(h.Cells), func(c api.Cell) bool { return c.Num == right-1 })}
	for i, wrong := range []api.Heap{spoilt, small, lone, {}} {
		for _, two := range [][2]uint32{{0, 0}, {right, right}, {right, 0}, {0, right}, {60, 60}} {
			wantNoTrees(t, "heap "+strconv.Itoa(i), wrong, two[0], two[1], api.ErrState)
		}
	}
}

// 17.1, 17.4 to 17.6: many trees of one heap, each against each.
func TestTreesAsTheWordsSay(t *testing.T) {
	x := choices(1)
	h := api.Heap{Size: 4096}
	lists := [][]api.Item{nil}
	roots := []uint32{0}
	for range 6 {
		l := x.changed(one(&x, lists))
		var root uint32
		h, root = grown(t, h, l)
		lists, roots = append(lists, l), append(roots, root)
	}
	for i, a := range lists {
		for j, b := range lists {
			want, _ := item.Diff(a, b)
			wantTrees(t, strconv.Itoa(i)+" and "+strconv.Itoa(j), h, roots[i], roots[j], want)
			wantMade(t, h, roots[i], roots[j])
		}
	}
}

// changed is a list of which some is otherwise.
func (x *choices) changed(l []api.Item) []api.Item {
	var changes []api.Change
	from := x.below(150)
	for _, y := range items(from, from+1+x.below(80), "of "+strconv.Itoa(x.below(3))) {
		if has := x.below(4) > 0; has {
			changes = append(changes, api.Change{Key: y.Key, Has: true, Val: y.Val})
			continue
		}
		changes = append(changes, api.Change{Key: y.Key})
	}
	l, _ = item.Apply(l, changes)
	return l
}

// wantMade holds that changes make the one of the other, as many each way, and that trees of the same blocks read none.
func wantMade(t *testing.T, h api.Heap, a, b uint32) {
	t.Helper()
	there, _ := delta.Changes(h, a, b)
	back, _ := delta.Changes(h, b, a)
	was, _ := tree.All(h, a)
	now, _ := tree.All(h, b)
	made, why := item.Apply(was, there)
	if why != api.OK || !slices.Equal(made, now) || len(there) != len(back) {
		t.Errorf("%d and %d: %d changes, %d back, error %d", a, b, len(there), len(back), why)
	}
	n, _ := delta.Read(h, a, b)
	m, _ := delta.Read(h, b, a)
	if n != m || (n == 0) != (a == b) || (len(there) == 0) != (a == b) {
		t.Errorf("%d and %d: Read: %d, back %d, with %d changes", a, b, n, m, len(there))
	}
}

// 17.3: the heap that is handed in stays as it is, and an answer as it was.
func TestTreesNewMemory(t *testing.T) {
	h, a := grown(t, api.Heap{Size: 64}, items(0, 20, "v"))
	h, b := grown(t, h, items(10, 30, "w"))
	before := slices.Clone(h.Cells)
	got, _ := delta.Changes(h, a, b)
	delta.Read(h, a, b)
	if !slices.Equal(h.Cells, before) {
		t.Errorf("the heap was changed")
	}
	for i := range h.Cells {
		h.Cells[i] = api.Cell{Data: "overwritten"}
	}
	want, _ := item.Diff(items(0, 20, "v"), items(10, 30, "w"))
	if !slices.Equal(got, want) {
		t.Errorf("the answer changed with the heap: %v", got)
	}
}
