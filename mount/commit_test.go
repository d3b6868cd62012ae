package mount_test

import (
	"testing"

	"cambium/api"
	"cambium/dev"
	"cambium/heap"
	"cambium/mount"
	"cambium/node"
)

// below are a cell, and all to which it leads, with their data.
func below(h api.Heap, num uint32) map[uint32]string {
	found := map[uint32]string{}
	var look func(num uint32)
	look = func(num uint32) {
		if _, seen := found[num]; seen {
			return
		}
		for _, c := range h.Cells {
			if c.Num == num {
				found[num] = c.Data
				n, _ := node.Decode(c.Data)
				for _, kid := range node.Kids(n) {
					look(kid)
				}
			}
		}
	}
	look(num)
	return found
}

// unwritten are the cells to which no Valid slot leads.
func unwritten(s api.Store) []api.Block {
	var out []api.Block
cells:
	for _, c := range s.Heap.Cells {
		for slot, valid := range s.Valid {
			if _, led := below(s.Heap, s.Slots[slot].Table)[c.Num]; valid && led {
				continue cells
			}
		}
		out = append(out, api.Block{Num: c.Num, Data: c.Data})
	}
	return out
}

// committed is what a right store's Commit answers, as the chapter says it word by word.
func committed(s api.Store) (api.Store, api.Errno) {
	gen := max(s.Slots[0].Gen, s.Slots[1].Gen)
	if gen == api.MaxGen {
		return s, api.ErrRange
	}
	var deeds []deed
	for _, b := range unwritten(s) {
		deeds = append(deeds, write(b))
	}
	next := api.Super{Size: s.Dev.Size, Gen: gen + 1, Table: s.Table.Num, Hash: s.Table.Hash}
	d, why := done(s.Dev, append(deeds, dev.Flush, write(slotOf(next)), dev.Flush)...)
	if why != api.OK {
		return api.Store{Dev: d}, why
	}
	s.Dev = d
	s.Heap, _ = heap.Hold(s.Heap, next.Table)
	if at := next.Gen % 2; s.Valid[at] {
		s.Heap, _ = heap.Drop(s.Heap, s.Slots[at].Table)
	}
	s.Slots[next.Gen%2], s.Valid[next.Gen%2] = next, true
	return s, api.OK
}

// 10.4: a superblock of the next generation leads to what the store has; what only the elder one led to is no more.
func TestCommit(t *testing.T) {
	s, why := mount.Commit(changed())
	next := superOf(6, tableN)
	want := api.Store{
		Dev: having(leafN, branE, tableN, slotOf(next)),
		Heap: heapOf(cellOf(leafN, 2), cellOf(leafA, 5), cellOf(leafB, 1), cellOf(branchC, 1),
			cellOf(branchD, 1), cellOf(branE, 1), cellOf(tableNew, 1), cellOf(tableN, 2)),
		Slots: [2]api.Super{next, newer},
		Valid: [2]bool{true, true},
		Table: kidOf(tableN),
	}
	if !like(s, want) || why != api.OK {
		t.Errorf("Commit: %v, error %d", s, why)
	}
	s, why = mount.Commit(newerAlone(without(0)))
	want = newerAlone(having(slotOf(superOf(6, tableNew))))
	want.Heap.Cells[2].Refs, want.Slots[0], want.Valid[0] = 3, superOf(6, tableNew), true
	if !like(s, want) || why != api.OK {
		t.Errorf("Commit of one superblock: %v, error %d", s, why)
	}
	s, why = mount.Commit(elderAlone(without(1)))
	want = elderAlone(having(slotOf(superOf(5, tableOld))))
	want.Heap.Cells[1].Refs, want.Slots[1], want.Valid[1] = 3, superOf(5, tableOld), true
	if !like(s, want) || why != api.OK {
		t.Errorf("Commit of one superblock: %v, error %d", s, why)
	}
}

// 10.4: the medium has nothing, but what no slot leads to is written, and no more than that.
func TestCommitWritesWhatIsNew(t *testing.T) {
	s := changed()
	s.Dev.Blocks = nil
	after, why := mount.Commit(s)
	want := devOf(leafN, branE, tableN, slotOf(superOf(6, tableN)))
	if !likeDev(after.Dev, want) || why != api.OK {
		t.Errorf("Commit: %v, error %d", after.Dev, why)
	}
}

// 10.4: wherever the power goes, a device is told as it is then, and nothing else of the store; else what was in the slot is let go.
func TestCommitSteps(t *testing.T) {
	for i, s := range rightStores() {
		for fuse := -1; fuse < 9; fuse++ {
			s.Dev.Fuse = fuse
			want, wantWhy := committed(s)
			after, why := mount.Commit(s)
			if !like(after, want) || why != wantWhy {
				t.Errorf("%d: Commit at %d: %v, not %v; error %d, not %d", i, fuse, after, want, why, wantWhy)
			}
			if why == api.OK && mount.Check(after) != api.OK {
				t.Errorf("%d: Commit at %d: then error %d", i, fuse, mount.Check(after))
			}
		}
	}
}

// generation is a store, changed, whose greatest generation is in either slot.
func generation(gen uint64, changed api.Store) api.Store {
	changed.Slots[gen%2].Gen = gen
	if other := &changed.Slots[1-gen%2]; other.Gen > gen {
		other.Gen = gen - 1
	}
	return changed
}

// 10.4: behind the greatest generation there is none; that is told ahead of all else.
func TestCommitOfTheLastGeneration(t *testing.T) {
	last := generation(api.MaxGen, changed())
	down := generation(api.MaxGen, changed())
	down.Dev.Down = true
	for i, s := range []api.Store{last, down, generation(api.MaxGen, back()), generation(api.MaxGen, sample())} {
		if after, why := mount.Commit(s); !like(after, s) || why != api.ErrRange {
			t.Errorf("%d: Commit: %v, error %d", i, after, why)
		}
	}
	nearly := generation(api.MaxGen-1, changed())
	after, why := mount.Commit(nearly)
	if after.Slots[0] != superOf(api.MaxGen, tableN) || after.Slots[1].Gen != api.MaxGen-1 || why != api.OK {
		t.Errorf("Commit: %v, error %d", after.Slots, why)
	}
	if again, why := mount.Commit(after); !like(again, after) || why != api.ErrRange {
		t.Errorf("Commit again: %v, error %d", again.Slots, why)
	}
}

// 10.4: that too much waits is told beside the device, too; what was written till then waits.
func TestCommitWithoutRoomToWait(t *testing.T) {
	for room := range 5 {
		s := changed()
		s.Dev.Waits = make([]api.Block, api.MaxWaits-room)
		want, wantWhy := committed(s)
		after, why := mount.Commit(s)
		if !like(after, want) || why != wantWhy || (why == api.OK) != (room >= 3) {
			t.Errorf("room of %d: Commit: %d wait, error %d, not %d", room, len(after.Dev.Waits), why, wantWhy)
		}
	}
}

// 10.4: a device that is down does nothing.
func TestCommitOfWhatIsDown(t *testing.T) {
	for i, s := range []api.Store{sample(), changed()} {
		s.Dev.Down = true
		if after, why := mount.Commit(s); !like(after, api.Store{Dev: s.Dev}) || why != api.ErrDown {
			t.Errorf("%d: Commit: %v, error %d", i, after, why)
		}
	}
}

// The example of the chapter.
func TestFormattedMountedCommitted(t *testing.T) {
	d, _ := mount.Format(api.Dev{Size: 16, Fuse: -1})
	s := mounted(t, d)
	if n, why := heap.Get(s.Heap, s.Table.Num); n.Kind != api.NodeTable || len(n.Volumes) != 0 || why != api.OK {
		t.Errorf("the table: %v, error %d", n, why)
	}
	if s.Valid != [2]bool{false, true} || s.Slots[1].Gen != 1 {
		t.Errorf("Mount: %v", s.Slots)
	}
	s, why := mount.Commit(s)
	if s.Valid != [2]bool{true, true} || s.Slots[0].Gen != 2 || s.Slots[1].Gen != 1 || why != api.OK {
		t.Errorf("Commit: %v, error %d", s.Slots, why)
	}
}
