package tree_test

import (
	"slices"
	"testing"

	"cambium/api"
	"cambium/hash"
	"cambium/heap"
	"cambium/item"
	"cambium/node"
	"cambium/tree"
)

// choices are numbers in a mixed order.
type choices uint32

func (x *choices) below(n int) int {
	*x = *x*1664525 + 1013904223
	return int(*x>>16) % n
}

// read is a tree as the chapter's words say what it is.
type read struct {
	items  []api.Item
	blocks []uint32
	levels int
}

// model reads a tree word by word; false, if it is not right.
func model(h api.Heap, root uint32) (read, bool) {
	at := slices.IndexFunc(h.Cells, func(c api.Cell) bool { return c.Num == root })
	if at < 0 {
		return read{}, false
	}
	n, _ := node.Decode(h.Cells[at].Data)
	if n.Kind == api.NodeLeaf {
		return read{items: n.Items, blocks: []uint32{root}, levels: 1}, true
	}
	whole := read{blocks: []uint32{root}}
	for _, k := range n.Kids {
		below, ok := model(h, k.Num)
		if !ok || below.items[0].Key != k.Key {
			return read{}, false
		}
		if whole.levels != 0 && whole.levels != below.levels+1 {
			return read{}, false
		}
		if whole.items != nil && below.items[0].Key <= whole.items[len(whole.items)-1].Key {
			return read{}, false
		}
		whole.levels = below.levels + 1
		whole.items = slices.Concat(whole.items, below.items)
		whole.blocks = append(whole.blocks, below.blocks...)
	}
	slices.Sort(whole.blocks)
	return whole, n.Kind == api.NodeBranch
}

// leaf has some keys, one behind the other.
func (x *choices) leaf() api.Node {
	var keys []string
	for key := 'a' + x.below(16); len(keys) == 0 || x.below(3) > 0; key += 1 + x.below(2) {
		keys = append(keys, string(rune(key)))
	}
	return leaf(keys...)
}

// branch has some cells, by the keys by which they are named: mostly one behind the other, of as many levels, named by their least keys.
func (x *choices) branch(h api.Heap) api.Node {
	n := branch()
	var last read
	for range 1 + x.below(8) {
		c := h.Cells[x.below(len(h.Cells))]
		careless := x.below(15) == 0
		next, ok := model(h, c.Num)
		fits := ok && (last.items == nil || next.levels == last.levels && next.items[0].Key > last.items[len(last.items)-1].Key)
		if !fits && !careless {
			continue
		}
		key := "x"
		if ok {
			key = next.items[0].Key
		}
		if x.below(20) == 0 {
			key += "x"
		}
		if len(n.Kids) == 0 || key > n.Kids[len(n.Kids)-1].Key {
			n.Kids = append(n.Kids, api.Kid{Key: key, Num: c.Num, Hash: hash.Sum(c.Data)})
			last = next
		}
	}
	return n
}

// cells are leaves and branches; some are no right trees.
func (x *choices) cells(t *testing.T) api.Heap {
	h := api.Heap{Size: 32}
	for len(h.Cells) < 30 {
		n := x.leaf()
		if len(h.Cells) >= 6 {
			n = x.branch(h)
		}
		after, _, why := heap.Put(h, n)
		if why != api.OK && len(n.Kids) > 0 {
			t.Fatalf("Put: error %d", why)
		}
		h = after
	}
	return h
}

// 7.1, 7.3 and 7.4: of any cells, those are roots of right trees that the chapter's words say, and are read as they say.
func TestAnyCells(t *testing.T) {
	levels := map[int]int{}
	for seed := range 60 {
		x := choices(seed)
		h := x.cells(t)
		for _, c := range h.Cells {
			want, ok := model(h, c.Num)
			levels[want.levels]++
			if ok {
				wantRead(t, h, c.Num, want, string(rune('a'+x.below(20))))
			} else if l, why := tree.All(h, c.Num); len(l) != 0 || why != api.ErrBad {
				t.Errorf("All of a wrong tree: %v, error %d", l, why)
			}
		}
	}
	if levels[0] < 300 || levels[1] < 300 || levels[2] < 300 || levels[3] < 100 || levels[4] < 50 {
		t.Errorf("there are too few of a kind: %v", levels)
	}
}

func wantRead(t *testing.T, h api.Heap, root uint32, want read, key string) {
	t.Helper()
	l, why := tree.All(h, root)
	if !slices.Equal(l, want.items) || why != api.OK {
		t.Fatalf("All: %v, not %v, error %d", l, want.items, why)
	}
	if why := item.Check(l); why != api.OK {
		t.Errorf("All: %v is not right: error %d", l, why)
	}
	if n, why := tree.Levels(h, root); n != want.levels || why != api.OK {
		t.Errorf("Levels: %d, not %d, error %d", n, want.levels, why)
	}
	if b, why := tree.Blocks(h, root); !slices.Equal(b, want.blocks) || why != api.OK {
		t.Errorf("Blocks: %v, not %v, error %d", b, want.blocks, why)
	}
	val, why := tree.Get(h, root, key)
	if wantVal, wantWhy := item.Get(l, key); val != wantVal || why != wantWhy {
		t.Errorf("Get %q: %q, error %d", key, val, why)
	}
	under, why := tree.Under(h, root, key)
	if want, wantWhy := item.Under(l, key); !slices.Equal(under, want) || why != wantWhy {
		t.Errorf("Under %q: %v, error %d", key, under, why)
	}
}

// 7.2: what is handed in stays as it is, the room behind its list too; what was answered stays as it is when that is overwritten, or an earlier answer.
func TestNewMemory(t *testing.T) {
	kept, _ := sample()
	for _, x := range rightTrees() {
		h := api.Heap{Size: kept.Size, Cells: append(make([]api.Cell, 0, 64), kept.Cells...)}
		want := items(x.keys...)
		l, _ := tree.All(h, x.root)
		u, _ := tree.Under(h, x.root, "")
		b, _ := tree.Blocks(h, x.root)
		tree.Get(h, x.root, "a")
		tree.Levels(h, x.root)
		if !slices.Equal(h.Cells, kept.Cells) || h.Cells[:64][len(h.Cells)] != (api.Cell{}) {
			t.Fatalf("%d: the heap was changed", x.root)
		}
		for i := range h.Cells {
			h.Cells[i] = api.Cell{Data: "overwritten"}
		}
		if !slices.Equal(l, want) || !slices.Equal(u, want) || !slices.Equal(b, x.blocks) {
			t.Errorf("%d: an answer changed with the heap", x.root)
		}
		clear(l)
		clear(u)
		clear(b)
		later, _ := tree.All(kept, x.root)
		laterUnder, _ := tree.Under(kept, x.root, "")
		laterBlocks, _ := tree.Blocks(kept, x.root)
		if !slices.Equal(later, want) || !slices.Equal(laterUnder, want) || !slices.Equal(laterBlocks, x.blocks) {
			t.Errorf("%d: an answer changed with an earlier one", x.root)
		}
	}
}
