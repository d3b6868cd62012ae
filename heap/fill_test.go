package heap_test

import (
	"slices"
	"testing"

	"cambium/api"
	"cambium/heap"
)

// putter is what Fill hands to a function.
type putter = func(api.Node) (api.Kid, api.Errno)

// filled is a function that puts nodes, tells where they are, and answers the first error.
func filled(nodes []api.Node, kids *[]api.Kid) func(putter) api.Errno {
	return func(put putter) api.Errno {
		for _, n := range nodes {
			kid, why := put(n)
			if why != api.OK {
				return why
			}
			*kids = append(*kids, kid)
		}
		return api.OK
	}
}

// 6.2: what is put by Fill is as if each node were put by itself; new ones are led to by those behind them.
func TestFill(t *testing.T) {
	for i, h := range rightHeaps() {
		one, want := h, []api.Kid{}
		nodes := []api.Node{leaf("A"), leaf("new"), leaf("A"), table(), leaf("new"), leaf("newer")}
		for range 3 {
			for _, n := range nodes[len(want):] {
				after, kid, why := heap.Put(one, n)
				if why != api.OK {
					t.Fatalf("%d: Put: error %d", i, why)
				}
				one, want = after, append(want, kid)
			}
			nodes = append(nodes, branch(want[len(want)-3:]...), table(want[1], want[len(want)-1], want[1]))
		}
		var kids []api.Kid
		after, why := heap.Fill(h, filled(nodes[:len(want)], &kids))
		if !like(after, one) || !slices.Equal(kids, want) || why != api.OK {
			t.Errorf("%d: Fill: %v, not %v; %v, not %v; error %d", i, after, one, kids, want, why)
		}
		if why := heap.Check(after); why != api.OK {
			t.Errorf("%d: Fill: then error %d", i, why)
		}
	}
}

// 6.2: with an error of what is put, or of the function itself, the heap is as it was, whatever was put ahead of it.
func TestFillErrors(t *testing.T) {
	most := with(0, func(c *api.Cell) { c.Refs = maxRefs })
	other := kidOf(leafA)
	other.Hash[0] ^= 1
	room := crowded()
	room.Cells = room.Cells[:len(room.Cells)-1]
	for i, x := range []struct {
		h     api.Heap
		nodes []api.Node
		want  api.Errno
	}{
		{sample(), []api.Node{leaf("new"), {}}, api.ErrForm},
		{sample(), []api.Node{leaf("new"), branch(kidOf(leafA)), branch(api.Kid{Num: 9})}, api.ErrNone},
		{sample(), []api.Node{leaf("new"), branch(other)}, api.ErrBad},
		{room, []api.Node{leaf("new"), leaf("A"), leaf("newer")}, api.ErrFull},
		{most, []api.Node{branch(kidOf(leafB), kidOf(leafA)), leaf("new")}, api.ErrRange},
		{with(0, func(c *api.Cell) { c.Refs = maxRefs - 1 }), []api.Node{branch(kidOf(leafA)), table(kidOf(leafA))}, api.ErrRange},
	} {
		var kids []api.Kid
		if after, why := heap.Fill(x.h, filled(x.nodes, &kids)); !like(after, x.h) || why != x.want {
			t.Errorf("%d: Fill: %v, error %d, not %d", i, after, why, x.want)
		}
		after, why := heap.Fill(x.h, func(put putter) api.Errno {
			for _, n := range x.nodes {
				put(n)
			}
			if kid, why := put(leaf("A")); kid != (api.Kid{}) || why != x.want {
				t.Errorf("%d: put behind an error: %v, error %d, not %d", i, kid, why, x.want)
			}
			return api.OK
		})
		if !like(after, x.h) || why != x.want {
			t.Errorf("%d: Fill that goes on: %v, error %d, not %d", i, after, why, x.want)
		}
	}
	after, why := heap.Fill(sample(), func(put putter) api.Errno {
		put(leaf("new"))
		return api.ErrLong
	})
	if !like(after, sample()) || why != api.ErrLong {
		t.Errorf("Fill with an error of its own: %v, error %d", after, why)
	}
	for i, h := range wrongHeaps() {
		after, why := heap.Fill(h, func(putter) api.Errno {
			t.Errorf("%d: Fill of a wrong heap goes on", i)
			return api.OK
		})
		if !like(after, api.Heap{}) || why != api.ErrState {
			t.Errorf("%d: Fill of a wrong heap: %v, error %d", i, after, why)
		}
	}
}
