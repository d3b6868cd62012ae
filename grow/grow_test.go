package grow_test

import (
	"slices"
	"strconv"
	"strings"
	"testing"

	"cambium/api"
	"cambium/grow"
	"cambium/hash"
	"cambium/heap"
	"cambium/node"
	"cambium/pack"
)

const maxRefs = api.MaxBlocks * 256

// like tells if two heaps are one: nil and empty lists are alike.
func like(a, b api.Heap) bool {
	return a.Size == b.Size && slices.Equal(a.Cells, b.Cells)
}

func empty() api.Heap {
	return api.Heap{Size: api.MaxBlocks}
}

// items has an item for each key.
func items(keys ...string) []api.Item {
	var l []api.Item
	for _, key := range keys {
		l = append(l, api.Item{Key: key, Val: "of " + key})
	}
	return l
}

// numbered has n items, at most 10000, whose vals are of any length.
func numbered(n int) []api.Item {
	var l []api.Item
	for i := range n {
		key := strconv.Itoa(10000 + i)[1:]
		l = append(l, api.Item{Key: key, Val: strings.Repeat("v", i%(api.MaxVal+1))})
	}
	return l
}

// choices are numbers in a mixed order.
type choices uint32

func (x *choices) below(n int) int {
	*x = *x*1664525 + 1013904223
	return int(*x>>16) % n
}

// items has n items, or a few less, of keys and vals of any bytes and lengths.
func (x *choices) items(n int) []api.Item {
	text := func(most int) string {
		b := make([]byte, x.below(most+1))
		for i := range b {
			b[i] = byte(x.below(256))
		}
		return string(b)
	}
	var l []api.Item
	for range n {
		key := string([]byte{byte(x.below(256))}) + text(x.below(api.MaxKey))
		l = append(l, api.Item{Key: key, Val: text(x.below(api.MaxVal + 1))})
	}
	slices.SortFunc(l, func(a, b api.Item) int { return strings.Compare(a.Key, b.Key) })
	return slices.CompactFunc(l, func(a, b api.Item) bool { return a.Key == b.Key })
}

func lists() [][]api.Item {
	longest := api.Item{Key: strings.Repeat("k", api.MaxKey), Val: strings.Repeat("v", api.MaxVal)}
	many := choices(1)
	l := [][]api.Item{nil, {}, {{Key: "\x00"}}, {longest}, items("a", "b"), numbered(1000), many.items(3000)}
	for n := range 40 {
		some := choices(n)
		l = append(l, numbered(n), some.items(n))
	}
	return l
}

// levels has the nodes of the tree of items, level by level, as the chapter says them word by word, if they are put into a heap from the block 2 on.
func levels(l []api.Item) [][]api.Node {
	if len(l) == 0 {
		return nil
	}
	num := uint32(2)
	row := []api.Node{}
	n := api.Node{Kind: api.NodeLeaf}
	for i, x := range l {
		n.Items = append(n.Items, x)
		var next api.Node
		if i+1 < len(l) {
			next = api.Node{Kind: api.NodeLeaf, Items: append(slices.Clone(n.Items), l[i+1])}
		}
		if ends(next, len(n.Items), x.Key, 0) {
			row = append(row, n)
			n = api.Node{Kind: api.NodeLeaf}
		}
	}
	whole := [][]api.Node{row}
	for level := byte(1); len(row) > 1; level++ {
		var kids []api.Kid
		for _, n := range row {
			data, _ := node.Encode(n)
			kids = append(kids, api.Kid{Key: firstKey(n), Num: num, Hash: hash.Sum(data)})
			num++
		}
		row = nil
		n := api.Node{Kind: api.NodeBranch}
		for i, k := range kids {
			n.Kids = append(n.Kids, k)
			var next api.Node
			if i+1 < len(kids) {
				next = api.Node{Kind: api.NodeBranch, Kids: append(slices.Clone(n.Kids), kids[i+1])}
			}
			if ends(next, len(n.Kids), k.Key, level) {
				row = append(row, n)
				n = api.Node{Kind: api.NodeBranch}
			}
		}
		whole = append(whole, row)
	}
	return whole
}

// ends tells if a node ends behind an entry; next is what it would be with the next one, if one is left.
func ends(next api.Node, entries int, key string, level byte) bool {
	if next.Kind == api.NodeNone {
		return true
	}
	if node.Size(next) > api.BlockSize-4 || entries+1 > 255 {
		return true
	}
	return entries >= 2 && pack.Sum(key+string([]byte{level}))%4 == 0
}

func firstKey(n api.Node) string {
	if n.Kind == api.NodeLeaf {
		return n.Items[0].Key
	}
	return n.Kids[0].Key
}

// planted is the heap that has a tree of items and nothing else, and the root.
func planted(l []api.Item) (api.Heap, api.Kid) {
	h := empty()
	var root api.Kid
	for _, row := range levels(l) {
		for _, n := range row {
			data, _ := node.Encode(n)
			root = api.Kid{Num: uint32(len(h.Cells)) + 2, Hash: hash.Sum(data)}
			h.Cells = append(h.Cells, api.Cell{Num: root.Num, Data: data, Refs: 1})
		}
	}
	if len(h.Cells) > 0 {
		h.Cells[len(h.Cells)-1].Refs = 0
	}
	return h, root
}

// 8.1: a tree has the nodes that the chapter says, put level by level, from the first on; its root is not held.
func TestBuild(t *testing.T) {
	for i, l := range lists() {
		want, wantRoot := planted(l)
		h, root, why := grow.Build(empty(), l)
		if !like(h, want) || root != wantRoot || why != api.OK {
			t.Errorf("%d: Build: %d cells, not %d; %v, not %v; error %d", i, len(h.Cells), len(want.Cells), root, wantRoot, why)
		}
		if why := heap.Check(h); why != api.OK {
			t.Errorf("%d: Build: then error %d", i, why)
		}
		if len(l) == 0 {
			continue
		}
		if held, why := heap.Held(h, root.Num); held != 0 || why != api.OK {
			t.Errorf("%d: Build: held %d times, error %d", i, held, why)
		}
	}
}

// 8.1: trees whose roots were worked out by another program.
func TestKnownTrees(t *testing.T) {
	hundred := func(i int) api.Item {
		return api.Item{Key: strconv.Itoa(1000 + i)[1:], Val: strconv.Itoa(i)}
	}
	thousand := func(i int) api.Item {
		return api.Item{Key: strconv.Itoa(10000 + 7*i)[1:], Val: strings.Repeat("v", i%161)}
	}
	bytes := func(i int) api.Item {
		return api.Item{Key: string([]byte{byte(i)})}
	}
	for _, x := range []struct {
		items int
		item  func(i int) api.Item
		nodes int
		root  string
	}{
		{1, func(int) api.Item { return api.Item{Key: "a", Val: "1"} }, 1, "274e4f2d0a6ec1d994e733b5e3aa81550bea1306b5e7eb86332c5bfb0dd52277"},
		{100, hundred, 26, "993eea8d50f61e733787547499f9685a21be78cb15989c47be6ef6983513f796"},
		{1000, thousand, 324, "56c86a902a17cb0f06a427274976f7e01d6714ed77fae8e465320d81d970a665"},
		{256, bytes, 48, "ce0634119a6c33476df86d1111a8a8f83d574c1f926228c80c23511ea362b4cf"},
	} {
		var l []api.Item
		for i := range x.items {
			l = append(l, x.item(i))
		}
		h, root, why := grow.Build(empty(), l)
		if len(h.Cells) != x.nodes || int(root.Num) != x.nodes+1 || hash.Hex(root.Hash) != x.root || why != api.OK {
			t.Errorf("%d items: %d nodes, %v, error %d", x.items, len(h.Cells), root, why)
		}
	}
}

// cuts tells how many items the leaves of a tree have, and how many kids its branches, in the order in which they are put.
func cuts(l []api.Item) ([]int, []int, api.Errno) {
	var leaves, branches []int
	h, _, why := grow.Build(empty(), l)
	for _, c := range h.Cells {
		switch n, _ := node.Decode(c.Data); n.Kind {
		case api.NodeLeaf:
			leaves = append(leaves, len(n.Items))
		case api.NodeBranch:
			branches = append(branches, len(n.Kids))
		}
	}
	return leaves, branches, why
}

// 8.1: where leaves end: of the keys of one letter, g, k, l, s, t and x are those with a sum that is a multiple of 4.
func TestWhereLeavesEnd(t *testing.T) {
	long := strings.Repeat("v", api.MaxVal)
	fill := func(vals ...int) []api.Item {
		var l []api.Item
		for i, n := range vals {
			l = append(l, api.Item{Key: []string{"a", "b", "c", "d", "e"}[i], Val: long[:n]})
		}
		return l
	}
	var short []api.Item
	for i := 0; len(short) < 200; i++ {
		if key := string([]byte{byte(i >> 8), byte(i)}); pack.Sum(key+"\x00")%4 != 0 {
			short = append(short, api.Item{Key: key})
		}
	}
	for i, x := range []struct {
		l    []api.Item
		want []int // how many items each leaf has
	}{
		{items("g"), []int{1}},
		{items("a", "b", "c"), []int{3}},
		{items("g", "h"), []int{2}},
		{items("g", "h", "i"), []int{3}},
		{items("a", "g"), []int{2}},
		{items("a", "g", "h"), []int{2, 1}},
		{items("a", "g", "k", "l"), []int{2, 2}},
		{items("a", "g", "h", "k", "l", "m", "s"), []int{2, 2, 3}},
		{items("g", "k", "l", "s", "t", "x"), []int{2, 2, 2}},
		{items("g", "k", "l", "s", "t"), []int{2, 2, 1}},
		{fill(160, 160, 160, 14), []int{4}}, // 2 + 3 * 163 + 17 is 508
		{fill(160, 160, 160, 15), []int{3, 1}},
		{fill(160, 160, 160, 14, 0), []int{4, 1}},
		{fill(160, 160, 100, 74), []int{4}},
		{fill(160, 160, 100, 75), []int{3, 1}},
		{fill(160, 160, 100, 71, 0), []int{5}},
		{fill(160, 160, 100, 72, 0), []int{4, 1}},
		{fill(0, 160, 160, 160, 160), []int{4, 1}},
		{short, []int{126, 74}}, // 2 + 126 * 4 is 506
	} {
		if got, _, why := cuts(x.l); !slices.Equal(got, x.want) || why != api.OK {
			t.Errorf("%d: leaves of %v items, not %v, error %d", i, got, x.want, why)
		}
	}
}

// 8.1: where branches end, of which the sum's last byte is their level.
func TestWhereBranchesEnd(t *testing.T) {
	// Each two items are a leaf, as every second key has such a sum: so the leaves' first keys can be chosen.
	pairs := func(keys string) []api.Item {
		var l []api.Item
		for _, key := range keys {
			first := string(key)
			end := first
			for last := byte(0); pack.Sum(end+"\x00")%4 != 0 || end == first; last++ {
				end = first + string([]byte{last})
			}
			l = append(l, api.Item{Key: first}, api.Item{Key: end})
		}
		return l
	}
	// Of the level 1 these are b, e, i, n, q, v and z, of the level 2 c, d, h, o, p and w.
	for i, x := range []struct {
		keys string
		want []int // how many kids the branches have, in the order in which they are put
	}{
		{"a", nil},
		{"b", nil},
		{"bc", []int{2}},
		{"ab", []int{2}},
		{"bcd", []int{3}},
		{"abc", []int{2, 1, 2}},
		{"bei", []int{2, 1, 2}},
		{"acdfgh", []int{6}},
		{"BCDEGHIKLNOPQSTVWXZ", []int{13, 6, 2}}, // 2 + 13 * 38 is 496
		{"abdegi", []int{2, 2, 2, 2, 1, 2}},
		{"abeg", []int{2, 2, 2}},
		{"abceghijn", []int{2, 2, 3, 2, 2, 2, 2}},
		{"abdeghijnpq", []int{2, 2, 3, 2, 2, 2, 3, 2}},
	} {
		if _, got, why := cuts(pairs(x.keys)); !slices.Equal(got, x.want) || why != api.OK {
			t.Errorf("%d: branches of %v kids, not %v, error %d", i, got, x.want, why)
		}
	}
}
