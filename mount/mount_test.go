package mount_test

import (
	"encoding/hex"
	"math"
	"slices"
	"testing"

	"cambium/api"
	"cambium/dev"
	"cambium/hash"
	"cambium/mount"
	"cambium/node"
)

// deed is something that is done to a device.
type deed = func(d api.Dev) (api.Dev, api.Errno)

func write(b api.Block) deed {
	return func(d api.Dev) (api.Dev, api.Errno) { return dev.Write(d, b.Num, b.Data) }
}

// done is a device to which one thing behind the other was done, till the first error.
func done(d api.Dev, deeds ...deed) (api.Dev, api.Errno) {
	for _, do := range deeds {
		var why api.Errno
		if d, why = do(d); why != api.OK {
			return d, why
		}
	}
	return d, api.OK
}

// formatting is what Format does, as the chapter says it word by word.
func formatting(size uint32) []deed {
	empty := blockOf(2, table())
	first := superOf(1, empty)
	first.Size = size
	return []deed{write(empty), dev.Flush, write(slotOf(first)), write(api.Block{Num: 0}), dev.Flush}
}

func wrongDevices() []api.Dev {
	return []api.Dev{
		{},
		{Size: api.MinBlocks - 1, Fuse: 3},
		{Size: api.MaxBlocks + 1, Down: true},
		{Size: math.MaxUint32},
		{Size: 16, Blocks: []api.Block{{Num: 3}}},
		{Size: 16, Blocks: []api.Block{{Num: 16, Data: "x"}}, Fuse: -1},
		{Size: 16, Waits: []api.Block{{Num: 3, Data: "x\x00"}}},
		{Size: 16, Waits: make([]api.Block, api.MaxWaits+1), Down: true},
	}
}

// 10.1: what a device has that is made new; what is no superblock and no table of it stays.
func TestFormat(t *testing.T) {
	d, why := mount.Format(api.Dev{Size: 16, Fuse: -1})
	data, _ := node.Encode(api.Node{Kind: api.NodeTable})
	first := api.Super{Size: 16, Gen: 1, Table: 2, Hash: hash.Sum(data)}
	want := api.Dev{Size: 16, Blocks: []api.Block{slotOf(first), {Num: 2, Data: data}}, Fuse: -1}
	if !likeDev(d, want) || why != api.OK {
		t.Errorf("Format: %v, error %d", d, why)
	}
	d, why = mount.Format(sampleDev())
	if want := having(api.Block{Num: 0, Data: "x"}, slotOf(first), blockOf(2, table())); !likeDev(d, api.Dev{Size: 16, Blocks: want.Blocks[1:], Fuse: -1}) || why != api.OK {
		t.Errorf("Format of what had something: %v, error %d", d, why)
	}
}

// 10.1 and 9.1: the bytes on the medium, worked out by another program.
func TestFormatBytes(t *testing.T) {
	d, _ := mount.Format(api.Dev{Size: 16, Fuse: -1})
	want := []string{
		"9f7a157b434200000010000000000000000100000002fdf616efedee81bfb47f5eac116091a19c558973c9257acf4b6a4207eae423bf",
		"536e08e403",
	}
	var got []string
	for _, b := range d.Blocks {
		got = append(got, hex.EncodeToString([]byte(b.Data)))
	}
	if !slices.Equal(got, want) {
		t.Errorf("Format: %q", got)
	}
}

// 10.1: wherever the power goes, and whatever is refused, a device is told as it is then, beside the first error.
func TestFormatSteps(t *testing.T) {
	down := sampleDev()
	down.Down = true
	packed := sampleDev()
	packed.Waits = make([]api.Block, api.MaxWaits)
	nearly := sampleDev()
	nearly.Waits = make([]api.Block, api.MaxWaits-1)
	waits := sampleDev()
	waits.Waits = []api.Block{{Num: 2, Data: "x"}, {Num: 0, Data: "y"}, {Num: 11, Data: "z"}}
	for i, d := range []api.Dev{{Size: 16}, {Size: 300}, {Size: api.MaxBlocks}, sampleDev(), down, packed, nearly, waits} {
		for fuse := -1; fuse < 7; fuse++ {
			d.Fuse = fuse
			want, wantWhy := done(d, formatting(d.Size)...)
			if after, why := mount.Format(d); !likeDev(after, want) || why != wantWhy {
				t.Errorf("%d: Format at %d: %v, error %d, not %d", i, fuse, after.Fuse, why, wantWhy)
			}
		}
	}
	for i, d := range wrongDevices() {
		if after, why := mount.Format(d); !likeDev(after, api.Dev{}) || why != api.ErrState {
			t.Errorf("Format of wrong device %d: %v, error %d", i, after, why)
		}
	}
}

// 10.1 and 10.2: what was formatted has an empty table, of the first generation, whatever was there.
func TestFormattedIsMounted(t *testing.T) {
	for _, d := range []api.Dev{{Size: 16, Fuse: -1}, {Size: api.MaxBlocks, Fuse: -1}, sampleDev(), having(slotOf(superOf(api.MaxGen, tableOld)))} {
		d, _ = mount.Format(d)
		empty := blockOf(2, table())
		first := superOf(1, empty)
		first.Size = d.Size
		want := api.Store{
			Dev:   d,
			Heap:  api.Heap{Size: d.Size, Cells: []api.Cell{cellOf(empty, 2)}},
			Slots: [2]api.Super{{}, first},
			Valid: [2]bool{false, true},
			Table: kidOf(empty),
		}
		if s := mounted(t, d); !like(s, want) {
			t.Errorf("Mount: %v", s)
		}
	}
}

// 10.2: both superblocks are loaded, and the newest one's table is held once more; what waits is read, too.
func TestMount(t *testing.T) {
	late := sampleDev() // all of it waits, and the medium has nothing of it
	late.Blocks, late.Waits = []api.Block{{Num: 3, Data: "x"}, {Num: 9, Data: "y"}}, late.Blocks
	high := having(slotOf(superOf(8, tableOld)))
	inSlot8 := back()
	inSlot8.Dev, inSlot8.Slots[0] = high, superOf(8, tableOld)
	for i, x := range []struct {
		d    api.Dev
		want api.Store
	}{
		{sampleDev(), sample()},
		{late, with(func(s *api.Store) { s.Dev = late })},
		{high, inSlot8},
		{without(0), newerAlone(without(0))},
		{without(1), elderAlone(without(1))},
	} {
		if s := mounted(t, x.d); !like(s, x.want) {
			t.Errorf("%d: Mount: %v, not %v", i, s, x.want)
		}
	}
}

// 10.2: a superblock of which something is not there, or not as it is named, is none.
func TestMountOfOneAlone(t *testing.T) {
	otherSize := newer
	otherSize.Size = 17
	otherHash := newer
	otherHash.Hash[31] ^= 1
	nothing := api.Block{Num: 14}
	outside := api.Block{Num: 15, Data: tableNew.Data}
	for i, d := range []api.Dev{
		without(1), without(9), without(7),
		having(api.Block{Num: 1, Data: "x"}),
		having(api.Block{Num: 1, Data: slotOf(superOf(6, tableNew)).Data}),
		having(slotOf(otherSize)), having(slotOf(otherHash)),
		having(slotOf(superOf(5, outside))), having(slotOf(superOf(5, nothing))), having(slotOf(superOf(5, junk))),
		having(slotOf(superOf(5, leafA))), having(slotOf(superOf(5, branchC))),
		having(blockOf(9, table())), having(blockOf(9, table(branchD, leafA))), having(blockOf(9, leaf("A"))),
		having(blockOf(7, branch(leafA))), having(api.Block{Num: 7, Data: branchD.Data + "x"}), having(api.Block{Num: 7, Data: "D"}),
	} {
		if s := mounted(t, d); !like(s, elderAlone(d)) {
			t.Errorf("%d: Mount: %v", i, s)
		}
	}
	for i, d := range []api.Dev{without(0), without(4), without(6), without(5), having(blockOf(5, leaf("other")))} {
		if s := mounted(t, d); !like(s, newerAlone(d)) {
			t.Errorf("%d: Mount: %v", i, s)
		}
	}
}

// newTable is the sample's device with another table in the slot 1, and blocks that it may have.
func newTable(tab api.Block, below ...api.Block) api.Dev {
	return having(append(below, tab, slotOf(superOf(5, tab)))...)
}

// 10.2: each way that leads to a block must be right: no number beyond the device, no second hash, nothing that is no node.
func TestMountOfWrongWays(t *testing.T) {
	otherA := api.Block{Num: leafA.Num, Data: leafB.Data}
	nothing := api.Block{Num: 14}
	slot := api.Block{Num: 11, Data: slotOf(elder).Data}
	below := func(b ...api.Block) api.Dev {
		tab, bran := blockOf(10, table(b...)), blockOf(8, branch(b...))
		for _, d := range []api.Dev{newTable(tab), newTable(tab, slot)} {
			if s := mounted(t, d); !like(s, elderAlone(d)) {
				t.Errorf("a table that leads to %v: Mount: %v", b, s)
			}
		}
		return newTable(blockOf(10, table(bran)), bran, slot)
	}
	for i, d := range []api.Dev{
		below(blockOf(16, leaf("A"))), below(leafA, blockOf(api.MaxBlocks-1, leaf("A"))), below(blockOf(14, leaf("A")), leafA),
		below(otherA), below(leafA, otherA), below(otherA, leafA), below(branchD, otherA), below(otherA, branchD), below(leafA, otherA, leafA),
		below(junk), below(leafA, junk), below(junk, leafA), below(nothing), below(slot),
	} {
		if s := mounted(t, d); !like(s, elderAlone(d)) {
			t.Errorf("%d: Mount: %v", i, s)
		}
	}
}

// 10.2: what a table leads to may be any node, as long as it is one, and the last block may have it.
func TestMountOfAnyNodes(t *testing.T) {
	last := blockOf(15, branch(tableOld, tableOld))
	tab := blockOf(10, table(api.Block{}, tableOld, last, branchC))
	d := newTable(tab, last)
	want := api.Store{
		Dev:   d,
		Heap:  heapOf(cellOf(leafA, 1), cellOf(tableOld, 4), cellOf(leafB, 1), cellOf(branchC, 2), cellOf(tab, 2), cellOf(last, 1)),
		Slots: [2]api.Super{elder, superOf(5, tab)},
		Valid: [2]bool{true, true},
		Table: kidOf(tab),
	}
	if s := mounted(t, d); !like(s, want) {
		t.Errorf("Mount: %v", s)
	}
}

// 10.2: a device that can't be mounted is told, and nothing else.
func TestMountRefused(t *testing.T) {
	down := sampleDev()
	down.Down = true
	late := sampleDev() // what waits spoils what is there
	late.Waits = []api.Block{{Num: 3, Data: "x"}, leafA, {Num: 3}}
	for i, x := range []struct {
		d   api.Dev
		why api.Errno
	}{
		{down, api.ErrDown},
		{api.Dev{Size: 16, Down: true}, api.ErrDown},
		{api.Dev{Size: 16}, api.ErrBad},
		{without(0, 1), api.ErrBad},
		{without(3), api.ErrBad},
		{without(4, 9), api.ErrBad},
		{late, api.ErrBad},
		{devOf(leafA, tableOld, leafB, branchC, api.Block{Num: 1, Data: slotOf(elder).Data}), api.ErrBad},
		{devOf(tableOld, slotOf(superOf(4, leafA)), leafA), api.ErrBad},
	} {
		if s, why := mount.Mount(x.d); !like(s, api.Store{Dev: x.d}) || why != x.why {
			t.Errorf("%d: Mount: %v, error %d", i, s, why)
		}
	}
	for i, d := range wrongDevices() {
		if s, why := mount.Mount(d); !like(s, api.Store{}) || why != api.ErrState {
			t.Errorf("Mount of wrong device %d: %v, error %d", i, s, why)
		}
	}
}

// 10.2: many levels, each of which leads twice to the one below: far more ways lead to a block than can be gone.
func TestMountOfManyWays(t *testing.T) {
	const levels = 20000
	d := api.Dev{Size: api.MaxBlocks, Fuse: -1, Blocks: []api.Block{blockOf(2, leaf("A"))}}
	for num := uint32(3); num < levels; num++ {
		lower := d.Blocks[len(d.Blocks)-1]
		d.Blocks = append(d.Blocks, blockOf(num, branch(lower, lower)))
	}
	tab := blockOf(levels, table(d.Blocks[len(d.Blocks)-1]))
	first := superOf(9, tab)
	first.Size = d.Size
	want := api.Store{Slots: [2]api.Super{{}, first}, Valid: [2]bool{false, true}, Table: kidOf(tab)}
	want.Heap.Size = d.Size
	for _, b := range append(d.Blocks, tab) {
		refs := 2
		if b.Num == levels-1 {
			refs = 1
		}
		want.Heap.Cells = append(want.Heap.Cells, cellOf(b, refs))
	}
	d.Blocks = slices.Concat([]api.Block{slotOf(first)}, d.Blocks, []api.Block{tab})
	want.Dev = d
	if s := mounted(t, d); !like(s, want) || mount.Check(s) != api.OK {
		t.Errorf("Mount: %d cells, error %d", len(s.Heap.Cells), mount.Check(s))
	}
	if s, why := mount.Commit(want); s.Slots[0].Gen != 10 || len(s.Dev.Blocks) != len(d.Blocks)+1 || why != api.OK {
		t.Errorf("Commit: %d blocks, error %d", len(s.Dev.Blocks), why)
	}
}
