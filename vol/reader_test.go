package vol_test

import (
	"slices"
	"testing"

	"cambium/api"
	"cambium/hash"
	"cambium/vol"
)

// 16.1: a Reader reads each volume as Items does, one after the other.
func TestReader(t *testing.T) {
	leaf := cellOf(t, 2, api.Node{Kind: api.NodeLeaf, Items: items(3, "a")}, 2)
	wrong := kidOf(leaf)
	wrong.Key = "other"
	branch := cellOf(t, 3, api.Node{Kind: api.NodeBranch, Kids: []api.Kid{wrong}}, 1)
	top := cellOf(t, 5, api.Node{Kind: api.NodeTable, Volumes: []api.Volume{
		volOf("e", api.VolBranch, "", 0, api.Kid{}), volOf("v", api.VolSnap, "", 0, kidOf(leaf)), volOf("w", api.VolSnap, "", 0, kidOf(branch))}}, 0)
	hand := api.Heap{Size: api.MinBlocks, Cells: []api.Cell{leaf, branch, top}}
	h, table := sample(t)
	for _, x := range []struct {
		h     api.Heap
		table api.Kid
	}{{h, table}, {hand, kidOf(top)}} {
		read, why := vol.Reader(x.h, x.table)
		if why != api.OK {
			t.Fatalf("Reader: error %d", why)
		}
		for _, name := range []string{"s", "b", "w", "none", "e", "v", "", "c", "w", "b", letters(1000)} {
			want, wantWhy := vol.Items(x.h, x.table, name)
			if l, why := read(name); !slices.Equal(l, want) || why != wantWhy {
				t.Errorf("%q: %v, error %d, not %v, %d", name, l, why, want, wantWhy)
			}
		}
	}
	if l, why := vol.Items(hand, kidOf(top), "w"); l != nil || why != api.ErrBad {
		t.Errorf("Items of a wrong tree: %v, error %d", l, why)
	}
}

// 16.1: there is no Reader of a heap that is not right, and then of what is no table of it.
func TestReaderRefused(t *testing.T) {
	h, table := sample(t)
	keyed, other := table, table
	keyed.Key = "a"
	other.Hash = hash.Sum("")
	small := copied(h)
	small.Size = api.MinBlocks - 1
	for _, x := range []struct {
		h     api.Heap
		table api.Kid
		want  api.Errno
	}{{small, table, api.ErrState}, {small, api.Kid{}, api.ErrState}, {h, api.Kid{}, api.ErrNone}, {h, keyed, api.ErrBad}, {h, other, api.ErrBad}, {h, kidOf(h.Cells[0]), api.ErrBad}} {
		if read, why := vol.Reader(x.h, x.table); read != nil || why != x.want {
			t.Errorf("Reader: error %d, not %d", why, x.want)
		}
	}
}

// 16.4: a Reader keeps nothing of what was handed in, and changes nothing of it; what it reads shares no memory.
func TestReaderKeepsNothing(t *testing.T) {
	h, table := sample(t)
	was := copied(h)
	read, _ := vol.Reader(h, table)
	if !like(h, was) {
		t.Error("the heap was changed")
	}
	clear(h.Cells)
	for range 2 {
		l, why := read("b")
		if !slices.Equal(l, sampleItems()["b"]) || why != api.OK {
			t.Errorf("%v, error %d", l, why)
		}
		l = l[:cap(l)]
		clear(l)
	}
}
