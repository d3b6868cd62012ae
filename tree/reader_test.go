package tree_test

import (
	"math"
	"slices"
	"testing"

	"cambium/api"
	"cambium/tree"
)

// 7.1: a Reader reads each tree as All does, one after the other.
func TestReader(t *testing.T) {
	_, base := sample()
	for what, n := range wrongTrees(base) {
		p := &plot{cells: slices.Clone(base.cells)}
		p.lay(40, n)
		h := p.heap()
		read, why := tree.Reader(h)
		if why != api.OK {
			t.Fatalf("%s: Reader: error %d", what, why)
		}
		for _, root := range []uint32{deeper, 40, low, 0, 1, 20, 62, all, 40, deep, math.MaxUint32, deeper} {
			want, wantWhy := tree.All(h, root)
			if l, why := read(root); !slices.Equal(l, want) || why != wantWhy {
				t.Errorf("%s: %d: %v, error %d, not %v, %d", what, root, l, why, want, wantWhy)
			}
		}
	}
}

// 7.1: there is no Reader of a heap that is not right.
func TestReaderRefused(t *testing.T) {
	right, _ := sample()
	for _, h := range []api.Heap{{}, {Size: api.MaxBlocks + 1}, {Size: 63, Cells: right.Cells}, {Size: 64, Cells: right.Cells[1:]}} {
		if read, why := tree.Reader(h); read != nil || why != api.ErrState {
			t.Errorf("a wrong heap: error %d", why)
		}
	}
}

// 7.2: a Reader keeps nothing of what was handed in, and changes nothing of it; what it reads shares no memory.
func TestReaderKeepsNothing(t *testing.T) {
	right, _ := sample()
	h := api.Heap{Size: right.Size, Cells: slices.Clone(right.Cells)}
	read, _ := tree.Reader(h)
	if !slices.Equal(h.Cells, right.Cells) {
		t.Error("the heap was changed")
	}
	clear(h.Cells)
	want, _ := tree.All(right, deep)
	for range 2 {
		l, why := read(deep)
		if !slices.Equal(l, want) || why != api.OK {
			t.Errorf("%v, error %d, not %v", l, why, want)
		}
		l = l[:cap(l)]
		clear(l)
	}
}
