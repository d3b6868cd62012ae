package tree_test

import (
	"cmp"
	"math"
	"slices"
	"strings"
	"testing"

	"cambium/api"
	"cambium/hash"
	"cambium/node"
	"cambium/tree"
)

// plot is a heap that is laid by hand, cell by cell.
type plot struct {
	cells []api.Cell
}

// lay puts a node into a block that is free; those to which it leads are there already.
func (p *plot) lay(num uint32, n api.Node) api.Kid {
	data, why := node.Encode(n)
	if why != api.OK {
		panic("the node is not right")
	}
	for _, kid := range node.Kids(n) {
		p.cells[slices.IndexFunc(p.cells, func(c api.Cell) bool { return c.Num == kid })].Refs++
	}
	p.cells = append(p.cells, api.Cell{Num: num, Data: data})
	return api.Kid{Num: num, Hash: hash.Sum(data)}
}

func (p *plot) heap() api.Heap {
	cells := slices.SortedFunc(slices.Values(p.cells), func(a, b api.Cell) int { return cmp.Compare(a.Num, b.Num) })
	return api.Heap{Size: 64, Cells: cells}
}

// items has an item for each key.
func items(keys ...string) []api.Item {
	var l []api.Item
	for _, key := range keys {
		l = append(l, api.Item{Key: key, Val: "of " + key})
	}
	return l
}

func leaf(keys ...string) api.Node {
	return api.Node{Kind: api.NodeLeaf, Items: items(keys...)}
}

func branch(kids ...api.Kid) api.Node {
	return api.Node{Kind: api.NodeBranch, Kids: kids}
}

func as(key string, k api.Kid) api.Kid {
	k.Key = key
	return k
}

// The roots of the right trees of the sample.
const (
	low    = 7  // a leaf: a, aa, b
	mid    = 5  // a leaf: c
	high   = 30 // a leaf: e, f
	single = 9  // a branch of low alone
	pair   = 3  // a branch of low and mid
	all    = 8  // a branch of all three
	other  = 11 // a branch of high alone
	deep   = 2  // a branch of pair and other
	deeper = 63 // a branch of deep alone
)

// sample has trees that share leaves, and a table that leads to two of them.
func sample() (api.Heap, *plot) {
	p := &plot{}
	l, m, h := p.lay(low, leaf("a", "aa", "b")), p.lay(mid, leaf("c")), p.lay(high, leaf("e", "f"))
	p.lay(single, branch(as("a", l)))
	two := p.lay(pair, branch(as("a", l), as("c", m)))
	three := p.lay(all, branch(as("a", l), as("c", m), as("e", h)))
	d := p.lay(deep, branch(as("a", two), as("e", p.lay(other, branch(as("e", h))))))
	p.lay(deeper, branch(as("a", d)))
	p.lay(20, api.Node{Kind: api.NodeTable, Volumes: []api.Volume{
		{Name: "v", Kind: api.VolBranch, Root: three.Num, Hash: three.Hash},
		{Name: "w", Kind: api.VolSnap, Root: d.Num, Hash: d.Hash},
	}})
	return p.heap(), p
}

type rightTree struct {
	root   uint32
	keys   []string
	levels int
	blocks []uint32
}

func rightTrees() []rightTree {
	return []rightTree{
		{0, nil, 0, nil},
		{low, []string{"a", "aa", "b"}, 1, []uint32{low}},
		{mid, []string{"c"}, 1, []uint32{mid}},
		{single, []string{"a", "aa", "b"}, 2, []uint32{low, single}},
		{pair, []string{"a", "aa", "b", "c"}, 2, []uint32{pair, mid, low}},
		{all, []string{"a", "aa", "b", "c", "e", "f"}, 2, []uint32{mid, low, all, high}},
		{other, []string{"e", "f"}, 2, []uint32{other, high}},
		{deep, []string{"a", "aa", "b", "c", "e", "f"}, 3, []uint32{deep, pair, mid, low, other, high}},
		{deeper, []string{"a", "aa", "b", "c", "e", "f"}, 4, []uint32{deep, pair, mid, low, other, high, deeper}},
	}
}

// 7.1: what a right tree has, how many levels, and which blocks.
func TestRightTrees(t *testing.T) {
	h, _ := sample()
	for _, x := range rightTrees() {
		want := items(x.keys...)
		if l, why := tree.All(h, x.root); !slices.Equal(l, want) || why != api.OK {
			t.Errorf("All of %d: %v, error %d", x.root, l, why)
		}
		if n, why := tree.Levels(h, x.root); n != x.levels || why != api.OK {
			t.Errorf("Levels of %d: %d, error %d", x.root, n, why)
		}
		if b, why := tree.Blocks(h, x.root); !slices.Equal(b, x.blocks) || why != api.OK {
			t.Errorf("Blocks of %d: %v, error %d", x.root, b, why)
		}
		for _, key := range []string{"", "a", "a\x00", "aa", "aaa", "b", "c", "d", "e", "f", "g", "\xff", strings.Repeat("a", 1000)} {
			val, why := tree.Get(h, x.root, key)
			if there := slices.Contains(x.keys, key); there && (val != "of "+key || why != api.OK) || !there && (val != "" || why != api.ErrNone) {
				t.Errorf("Get of %d, %q: %q, error %d", x.root, key, val, why)
			}
			under := slices.DeleteFunc(slices.Clone(want), func(x api.Item) bool { return !strings.HasPrefix(x.Key, key) })
			if l, why := tree.Under(h, x.root, key); !slices.Equal(l, under) || why != api.OK {
				t.Errorf("Under of %d, %q: %v, error %d", x.root, key, l, why)
			}
		}
	}
}

// wantError holds what all calls answer against an error, and nothing beside it.
func wantError(t *testing.T, what string, h api.Heap, root uint32, want api.Errno) {
	t.Helper()
	if l, why := tree.All(h, root); len(l) != 0 || why != want {
		t.Errorf("%s: All of %d: %v, error %d, not %d", what, root, l, why, want)
	}
	if n, why := tree.Levels(h, root); n != 0 || why != want {
		t.Errorf("%s: Levels of %d: %d, error %d, not %d", what, root, n, why, want)
	}
	if b, why := tree.Blocks(h, root); len(b) != 0 || why != want {
		t.Errorf("%s: Blocks of %d: %v, error %d, not %d", what, root, b, why, want)
	}
	for _, key := range []string{"", "a", "z"} {
		if val, why := tree.Get(h, root, key); val != "" || why != want {
			t.Errorf("%s: Get of %d, %q: %q, error %d, not %d", what, root, key, val, why, want)
		}
		if l, why := tree.Under(h, root, key); len(l) != 0 || why != want {
			t.Errorf("%s: Under of %d, %q: %v, error %d, not %d", what, root, key, l, why, want)
		}
	}
}

// 7.1: a heap that is not right is answered first, whatever the root.
func TestWrongHeaps(t *testing.T) {
	right, _ := sample()
	with := func(change func(h *api.Heap)) api.Heap {
		h := api.Heap{Size: right.Size, Cells: slices.Clone(right.Cells)}
		change(&h)
		return h
	}
	for _, h := range []api.Heap{
		{},
		{Size: api.MinBlocks - 1},
		{Size: api.MaxBlocks + 1},
		with(func(h *api.Heap) { h.Size = 63 }),
		with(func(h *api.Heap) { h.Cells[0].Refs = 0 }),
		with(func(h *api.Heap) { h.Cells[0].Data += "x" }),
		with(func(h *api.Heap) { slices.Reverse(h.Cells) }),
		with(func(h *api.Heap) { h.Cells = h.Cells[1:] }),
	} {
		for _, root := range []uint32{0, 1, low, deep, 20, 40, math.MaxUint32} {
			wantError(t, "a wrong heap", h, root, api.ErrState)
		}
	}
}

// 7.1: there is no tree without a cell, but the one of nothing.
func TestNoCell(t *testing.T) {
	h, _ := sample()
	for _, root := range []uint32{1, 4, 6, 40, 62, 64, api.MaxBlocks, api.MaxBlocks + deep, math.MaxUint32} {
		wantError(t, "no cell", h, root, api.ErrNone)
		wantError(t, "no cell at all", api.Heap{Size: api.MinBlocks}, root, api.ErrNone)
	}
}

// wrongTrees lays trees that are not right, each a root, into a plot of which the sample's cells are.
func wrongTrees(p *plot) map[string]api.Node {
	kid := func(num uint32) api.Kid {
		c := p.cells[slices.IndexFunc(p.cells, func(c api.Cell) bool { return c.Num == num })]
		return api.Kid{Num: num, Hash: hash.Sum(c.Data)}
	}
	empty := p.lay(21, api.Node{Kind: api.NodeTable})
	across := p.lay(22, leaf("b", "d"))
	behind := p.lay(23, branch(as("d", p.lay(24, leaf("d", "ee")))))
	return map[string]api.Node{
		"a table":                         {Kind: api.NodeTable},
		"a table of a tree":               {Kind: api.NodeTable, Volumes: []api.Volume{{Name: "v", Kind: api.VolSnap, Root: low, Hash: kid(low).Hash}}},
		"a table below":                   branch(as("a", empty)),
		"a table that has a tree below":   branch(as("a", kid(20))),
		"a table at the end":              branch(as("a", kid(low)), as("c", empty)),
		"a lower one behind":              branch(as("a", kid(single)), as("c", kid(mid))),
		"a higher one behind":             branch(as("a", kid(low)), as("e", kid(other))),
		"a much higher one behind":        branch(as("c", kid(mid)), as("e", p.lay(25, branch(as("e", kid(other)))))),
		"a higher one as the third":       branch(as("a", kid(low)), as("c", kid(mid)), as("e", kid(other))),
		"a key below the least":           branch(as("A", kid(low))),
		"a key above the least":           branch(as("aa", kid(low))),
		"the greatest key":                branch(as("b", kid(low))),
		"a key of no item":                branch(as("b\x00", kid(low))),
		"the second key below the least":  branch(as("a", kid(low)), as("bb", kid(mid))),
		"the second key above the least":  branch(as("a", kid(low)), as("d", kid(mid))),
		"a wrong key of a branch":         branch(as("A", kid(pair)), as("e", kid(other))),
		"a least key twice":               branch(as("a", kid(low)), as("b", across)),
		"a key within the one ahead":      branch(as("b", across), as("c", kid(mid))),
		"a key within the one two ahead":  branch(as("a", kid(single)), as("d", behind), as("e", kid(other))),
		"one tree twice":                  branch(as("a", kid(low)), as("b", kid(low))),
		"one tree twice, of one item":     branch(as("c", kid(mid)), as("d", kid(mid))),
		"one tree twice, at another key":  branch(as("a", kid(pair)), as("b", kid(pair))),
		"a leaf in two branches":          branch(as("a", kid(pair)), as("c", p.lay(26, branch(as("c", kid(mid)), as("e", kid(high)))))),
		"a wrong one far below":           branch(as("a", p.lay(27, branch(as("a", p.lay(28, branch(as("aa", kid(low))))))))),
		"a wrong one far below, at last":  branch(as("a", kid(pair)), as("e", p.lay(29, branch(as("e", kid(high)), as("f", kid(high)))))),
		"a wrong one far below, at first": branch(as("a", p.lay(31, branch(as("a", kid(low)), as("b", kid(low))))), as("e", kid(other))),
	}
}

// 7.1: a tree that is not right is told as such by all calls, whatever they are asked for.
func TestWrongTrees(t *testing.T) {
	_, base := sample()
	wrong := wrongTrees(base)
	for what, n := range wrong {
		p := &plot{cells: slices.Clone(base.cells)}
		p.lay(40, n)
		wantError(t, what, p.heap(), 40, api.ErrBad)
		if n.Kind == api.NodeBranch {
			p.lay(4, branch(as(n.Kids[0].Key, api.Kid{Num: 40, Hash: hash.Sum(p.cells[len(p.cells)-1].Data)})))
			wantError(t, what+", one up", p.heap(), 4, api.ErrBad)
		}
		// Others of the heap are read all the same.
		if l, why := tree.All(p.heap(), deeper); len(l) != 6 || why != api.OK {
			t.Errorf("%s: All of another one: %v, error %d", what, l, why)
		}
	}
}

// 7.1, P1: a block that is come to on very many ways is not read on each of them.
func TestManyWays(t *testing.T) {
	p := &plot{}
	below := p.lay(2, leaf("a", "b"))
	for num := uint32(3); num < 64; num++ {
		below = p.lay(num, branch(as("a", below), as("b", below), as("c", below)))
	}
	wantError(t, "many ways", p.heap(), 63, api.ErrBad)
}

// 7.1, P1: a tree may have as many levels as a heap has cells.
func TestManyLevels(t *testing.T) {
	h := api.Heap{Size: api.MaxBlocks}
	below := api.Kid{}
	for num := uint32(2); num < api.MaxBlocks; num++ {
		n := leaf("a", "b")
		if num > 2 {
			n = branch(as("a", below))
		}
		data, _ := node.Encode(n)
		below = api.Kid{Num: num, Hash: hash.Sum(data)}
		h.Cells = append(h.Cells, api.Cell{Num: num, Data: data, Refs: 1})
	}
	if l, why := tree.All(h, below.Num); !slices.Equal(l, items("a", "b")) || why != api.OK {
		t.Errorf("All: %v, error %d", l, why)
	}
	if n, why := tree.Levels(h, below.Num); n != api.MaxBlocks-2 || why != api.OK {
		t.Errorf("Levels: %d, error %d", n, why)
	}
	if b, why := tree.Blocks(h, below.Num); len(b) != api.MaxBlocks-2 || !slices.IsSorted(b) || why != api.OK {
		t.Errorf("Blocks: %d, error %d", len(b), why)
	}
}
