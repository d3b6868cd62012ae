package mount_test

import (
	"math"
	"slices"
	"testing"

	"cambium/api"
	"cambium/hash"
	"cambium/mount"
)

func rightStores() []api.Store {
	down := with(func(s *api.Store) { s.Dev.Down = true })
	waits := with(func(s *api.Store) { s.Dev.Waits = []api.Block{{Num: 9, Data: "waits"}} })
	blank := with(func(s *api.Store) { s.Dev.Blocks = nil })
	both := newerAlone(sampleDev())
	both.Slots[0], both.Valid[0] = superOf(6, tableNew), true
	both.Heap.Cells[2].Refs = 3
	greatest := with(func(s *api.Store) { s.Slots[0].Gen, s.Slots[1].Gen = api.MaxGen, 1 })
	deeper := both // the table is itself a volume's root of another one
	outer := blockOf(11, table(tableNew))
	deeper.Heap.Cells = append(slices.Clone(both.Heap.Cells), cellOf(outer, 1))
	deeper.Table = kidOf(outer)
	twin := blockOf(10, leaf("B"))
	twins := sample()
	twins.Heap = heapOf(cellOf(leafA, 4), cellOf(tableOld, 1), cellOf(leafB, 1), cellOf(branchC, 1), cellOf(branchD, 1),
		cellOf(tableNew, 1), cellOf(twin, 1), cellOf(blockOf(11, table(twin)), 1))
	twins.Table = kidOf(blockOf(11, table(twin)))
	return []api.Store{
		sample(), changed(), back(), elderAlone(sampleDev()), newerAlone(without(0)), down, waits, blank, both, greatest, deeper, twins,
	}
}

// wrongParts are stores whose device or heap is not right, or not the other one's.
func wrongParts() []api.Store {
	return []api.Store{
		{},
		with(func(s *api.Store) { s.Dev = api.Dev{} }),
		with(func(s *api.Store) { s.Heap = api.Heap{} }),
		with(func(s *api.Store) { s.Dev.Blocks = append(s.Dev.Blocks, api.Block{Num: 13, Data: "x"}) }),
		with(func(s *api.Store) { s.Dev.Waits = []api.Block{{Num: 16, Data: "x"}} }),
		with(func(s *api.Store) { s.Dev.Size = 17 }),
		with(func(s *api.Store) { s.Heap.Size = 17 }),
		with(func(s *api.Store) { s.Heap.Size, s.Slots[0].Size, s.Slots[1].Size = 17, 17, 17 }),
		with(func(s *api.Store) { s.Heap.Cells[0].Data = "x" }),
		with(func(s *api.Store) { s.Heap.Cells[0].Data = leafB.Data }),
		with(func(s *api.Store) { s.Heap.Cells = s.Heap.Cells[1:] }),
		with(func(s *api.Store) { slices.Reverse(s.Heap.Cells) }),
	}
}

// wrongSlots are stores in whose slots something is not right.
func wrongSlots() []api.Store {
	alone := func(change func(s *api.Store)) api.Store {
		s := newerAlone(sampleDev())
		change(&s)
		return s
	}
	other := kidOf(tableOld).Hash
	other[31] ^= 1
	return []api.Store{
		alone(func(s *api.Store) { s.Valid[1], s.Slots[1], s.Heap.Cells[2].Refs = false, api.Super{}, 1 }),
		alone(func(s *api.Store) { s.Valid[1], s.Heap.Cells[2].Refs = false, 1 }),
		alone(func(s *api.Store) { s.Slots[0] = elder }),
		alone(func(s *api.Store) { s.Slots[0].Gen = 2 }),
		alone(func(s *api.Store) { s.Slots[0].Hash[31] = 1 }),
		alone(func(s *api.Store) { s.Valid[0] = true }),
		alone(func(s *api.Store) { s.Valid[0], s.Valid[1] = true, false }),
		with(func(s *api.Store) { s.Slots[0].Gen = 0 }),
		with(func(s *api.Store) { s.Slots[0].Gen = 3 }),
		with(func(s *api.Store) { s.Slots[1].Gen = 6 }),
		with(func(s *api.Store) { s.Slots[0].Gen = api.MaxGen + 2 }),
		with(func(s *api.Store) { s.Slots[0].Size = 17 }),
		with(func(s *api.Store) { s.Slots[1].Size = 15 }),
		with(func(s *api.Store) { s.Slots[0], s.Slots[1] = s.Slots[1], s.Slots[0] }),
		with(func(s *api.Store) { s.Slots[0].Hash = other }),
		with(func(s *api.Store) { s.Slots[1].Hash = [32]byte{} }),
		with(func(s *api.Store) { s.Slots[0].Table = 2 }),
		with(func(s *api.Store) { s.Slots[0].Table = 15 }),
		with(func(s *api.Store) { s.Slots[0].Table = 1 }),
		with(func(s *api.Store) { s.Slots[0].Table = 16 }),
		with(func(s *api.Store) { s.Slots[0].Table = tableNew.Num }),
		leafInSlot(),
	}
}

// leafInSlot is a store of which nothing is wrong but that the elder superblock's table is a leaf.
func leafInSlot() api.Store {
	s := newerAlone(sampleDev())
	s.Slots[0], s.Valid[0] = superOf(4, leafA), true
	s.Heap.Cells[0].Refs = 4
	return s
}

// wrongTables are stores whose Table is not right.
func wrongTables() []api.Store {
	other := kidOf(tableNew).Hash
	other[0] ^= 0x80
	leafTable := with(func(s *api.Store) { s.Table = kidOf(leafA) })
	leafTable.Heap.Cells[0].Refs, leafTable.Heap.Cells[5].Refs = 5, 1
	return []api.Store{
		leafTable,
		with(func(s *api.Store) { s.Table = api.Kid{} }),
		with(func(s *api.Store) { s.Table.Key = "a" }),
		with(func(s *api.Store) { s.Table.Hash = other }),
		with(func(s *api.Store) { s.Table.Hash = hash.Sum("") }),
		with(func(s *api.Store) { s.Table.Num = tableOld.Num }),
		with(func(s *api.Store) { s.Table.Num = 15 }),
		with(func(s *api.Store) { s.Table.Num = 0 }),
		with(func(s *api.Store) { s.Table.Num = math.MaxUint32 }),
	}
}

// wrongRefs are stores of which a cell has more or fewer Refs than it may, but for what a heap may have.
func wrongRefs() []api.Store {
	var wrong []api.Store
	for at := range sample().Heap.Cells {
		wrong = append(wrong, with(func(s *api.Store) { s.Heap.Cells[at].Refs++ }))
	}
	lone := func(b api.Block, refs int) api.Store {
		return with(func(s *api.Store) { s.Heap.Cells = append(s.Heap.Cells, cellOf(b, refs)) })
	}
	branch := blockOf(14, branch(leafB))
	led := lone(branch, 0)
	led.Heap.Cells[2].Refs = 2
	heldTwice := lone(branch, 1)
	heldTwice.Heap.Cells[2].Refs = 2
	return append(wrong, lone(lost, 0), lone(lost, 1), led, heldTwice, lone(blockOf(14, table()), 0), lone(blockOf(14, table()), 1),
		with(func(s *api.Store) { s.Heap.Cells[5].Refs = 1 }),
		with(func(s *api.Store) { s.Heap.Cells[5].Refs = 0 }),
		with(func(s *api.Store) { s.Heap.Cells[1].Refs = 0 }),
		with(func(s *api.Store) { s.Heap.Cells[1].Refs, s.Heap.Cells[5].Refs = 2, 1 }),
	)
}

func wrongStores() []api.Store {
	return slices.Concat(wrongParts(), wrongSlots(), wrongTables(), wrongRefs())
}

// 10.3: what a right store is.
func TestCheck(t *testing.T) {
	for i, s := range rightStores() {
		if why := mount.Check(s); why != api.OK {
			t.Errorf("right store %d: error %d", i, why)
		}
	}
	for what, stores := range map[string][]api.Store{"parts": wrongParts(), "slots": wrongSlots(), "table": wrongTables(), "refs": wrongRefs()} {
		for i, s := range stores {
			if why := mount.Check(s); why != api.ErrState {
				t.Errorf("wrong %s %d: error %d", what, i, why)
			}
		}
	}
}

// 10.3: that a store is not right is answered first, and all else is zero.
func TestWrongStores(t *testing.T) {
	for i, s := range wrongStores() {
		if after, why := mount.Swap(s, sample().Heap, sample().Table); !like(after, api.Store{}) || why != api.ErrState {
			t.Errorf("Swap of %d: %v, error %d", i, after, why)
		}
		if after, why := mount.Swap(s, api.Heap{}, api.Kid{}); !like(after, api.Store{}) || why != api.ErrState {
			t.Errorf("Swap of %d to nothing: %v, error %d", i, after, why)
		}
		if after, why := mount.Commit(s); !like(after, api.Store{}) || why != api.ErrState {
			t.Errorf("Commit of %d: %v, error %d", i, after, why)
		}
	}
}

// 10.3: a store has another heap and another table, if it is right with them, and is else as it is.
func TestSwap(t *testing.T) {
	for i, s := range rightStores() {
		for j, with := range append(rightStores(), wrongStores()...) {
			want, wantWhy := s, api.OK
			want.Heap, want.Table = with.Heap, with.Table
			if mount.Check(want) != api.OK {
				want, wantWhy = s, api.ErrForm
			}
			if after, why := mount.Swap(s, with.Heap, with.Table); !like(after, want) || why != wantWhy {
				t.Errorf("Swap of %d with those of %d: %v, error %d, not %d", i, j, after, why, wantWhy)
			}
		}
	}
	if after, why := mount.Swap(sample(), changed().Heap, changed().Table); !like(after, changed()) || why != api.OK {
		t.Errorf("Swap: %v, error %d", after, why)
	}
	if after, why := mount.Swap(changed(), changed().Heap, sample().Table); !like(after, changed()) || why != api.ErrForm {
		t.Errorf("Swap with a table that is not held: %v, error %d", after, why)
	}
}
