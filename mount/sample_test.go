package mount_test

import (
	"slices"
	"testing"

	"cambium/api"
	"cambium/hash"
	"cambium/mount"
	"cambium/node"
	"cambium/super"
)

func likeDev(a, b api.Dev) bool {
	return a.Size == b.Size && a.Down == b.Down && a.Fuse == b.Fuse &&
		slices.Equal(a.Blocks, b.Blocks) && slices.Equal(a.Waits, b.Waits)
}

// like tells if two stores are one: nil and empty lists are alike.
func like(a, b api.Store) bool {
	return likeDev(a.Dev, b.Dev) && a.Heap.Size == b.Heap.Size && slices.Equal(a.Heap.Cells, b.Heap.Cells) &&
		a.Slots == b.Slots && a.Valid == b.Valid && a.Table == b.Table
}

func copied(s api.Store) api.Store {
	s.Dev.Blocks, s.Dev.Waits = slices.Clone(s.Dev.Blocks), slices.Clone(s.Dev.Waits)
	s.Heap.Cells = slices.Clone(s.Heap.Cells)
	return s
}

func leaf(key string) api.Node {
	return api.Node{Kind: api.NodeLeaf, Items: []api.Item{{Key: key, Val: "of " + key}}}
}

// branch leads to blocks, in their order.
func branch(to ...api.Block) api.Node {
	n := api.Node{Kind: api.NodeBranch}
	for i, b := range to {
		k := kidOf(b)
		k.Key = string([]byte{byte('a' + i)})
		n.Kids = append(n.Kids, k)
	}
	return n
}

// table has a volume for each block; of a zero block it has nothing.
func table(to ...api.Block) api.Node {
	n := api.Node{Kind: api.NodeTable}
	for i, b := range to {
		v := api.Volume{Name: string([]byte{byte('a' + i)}), Kind: api.VolBranch}
		if b.Num != 0 {
			v.Root, v.Hash = b.Num, kidOf(b).Hash
		}
		n.Volumes = append(n.Volumes, v)
	}
	return n
}

func blockOf(num uint32, n api.Node) api.Block {
	data, why := node.Encode(n)
	if why != api.OK {
		panic("the node is not right")
	}
	return api.Block{Num: num, Data: data}
}

// kidOf is how a block is named by those that lead to it.
func kidOf(b api.Block) api.Kid {
	return api.Kid{Num: b.Num, Hash: hash.Sum(b.Data)}
}

func superOf(gen uint64, table api.Block) api.Super {
	return api.Super{Size: 16, Gen: gen, Table: table.Num, Hash: kidOf(table).Hash}
}

// slotOf is the block as which a superblock stands in its slot.
func slotOf(s api.Super) api.Block {
	data, why := super.Encode(s)
	if why != api.OK {
		panic("the superblock is not right")
	}
	return api.Block{Num: uint32(s.Gen % 2), Data: data}
}

func cellOf(b api.Block, refs int) api.Cell {
	return api.Cell{Num: b.Num, Data: b.Data, Refs: refs}
}

func heapOf(cells ...api.Cell) api.Heap {
	return api.Heap{Size: 16, Cells: cells}
}

// devOf is a device of some blocks, in any order.
func devOf(blocks ...api.Block) api.Dev {
	d := api.Dev{Size: 16, Blocks: slices.Clone(blocks), Fuse: -1}
	slices.SortFunc(d.Blocks, func(a, b api.Block) int { return int(a.Num) - int(b.Num) })
	return d
}

// The blocks of the sample: the elder table leads to leafA and leafB, the newer one thrice to leafA.
var (
	leafA    = blockOf(3, leaf("A"))
	leafB    = blockOf(5, leaf("B"))
	branchC  = blockOf(6, branch(leafA, leafB))
	branchD  = blockOf(7, branch(leafA, leafA))
	tableOld = blockOf(4, table(branchC))
	tableNew = blockOf(9, table(branchD, api.Block{}, leafA))
	elder    = superOf(4, tableOld)
	newer    = superOf(5, tableNew)
	lost     = blockOf(13, leaf("lost")) // nothing leads to it
	junk     = api.Block{Num: 12, Data: "junk"}
)

func sampleDev() api.Dev {
	return devOf(slotOf(elder), slotOf(newer), leafA, tableOld, leafB, branchC, branchD, tableNew, junk, lost)
}

// without is the sample's device, of which some blocks have nothing.
func without(nums ...uint32) api.Dev {
	d := sampleDev()
	d.Blocks = slices.DeleteFunc(d.Blocks, func(b api.Block) bool { return slices.Contains(nums, b.Num) })
	return d
}

// having is the sample's device, of which some blocks have other data.
func having(blocks ...api.Block) api.Dev {
	var nums []uint32
	for _, b := range blocks {
		nums = append(nums, b.Num)
	}
	return devOf(append(without(nums...).Blocks, blocks...)...)
}

// sample is what the sample's device is mounted as.
func sample() api.Store {
	return api.Store{
		Dev:   sampleDev(),
		Heap:  heapOf(cellOf(leafA, 4), cellOf(tableOld, 1), cellOf(leafB, 1), cellOf(branchC, 1), cellOf(branchD, 1), cellOf(tableNew, 2)),
		Slots: [2]api.Super{elder, newer},
		Valid: [2]bool{true, true},
		Table: kidOf(tableNew),
	}
}

// elderAlone is a store of a device that has the sample's elder superblock alone.
func elderAlone(d api.Dev) api.Store {
	return api.Store{
		Dev:   d,
		Heap:  heapOf(cellOf(leafA, 1), cellOf(tableOld, 2), cellOf(leafB, 1), cellOf(branchC, 1)),
		Slots: [2]api.Super{elder, {}},
		Valid: [2]bool{true, false},
		Table: kidOf(tableOld),
	}
}

// newerAlone is a store of a device that has the sample's newer superblock alone.
func newerAlone(d api.Dev) api.Store {
	return api.Store{
		Dev:   d,
		Heap:  heapOf(cellOf(leafA, 3), cellOf(branchD, 1), cellOf(tableNew, 2)),
		Slots: [2]api.Super{{}, newer},
		Valid: [2]bool{false, true},
		Table: kidOf(tableNew),
	}
}

// Blocks that the sample can have beside its own: they lead to some of these, too.
var (
	leafN  = blockOf(2, leaf("N"))
	branE  = blockOf(8, branch(leafN, leafA, leafN))
	tableN = blockOf(10, table(branE, branchC))
)

// changed is the sample, with another table that is not written yet.
func changed() api.Store {
	s := sample()
	s.Heap = heapOf(cellOf(leafN, 2), cellOf(leafA, 5), cellOf(tableOld, 1), cellOf(leafB, 1), cellOf(branchC, 2),
		cellOf(branchD, 1), cellOf(branE, 1), cellOf(tableNew, 1), cellOf(tableN, 1))
	s.Table = kidOf(tableN)
	return s
}

// back is the sample, with the elder one's table.
func back() api.Store {
	s := sample()
	s.Heap.Cells[1].Refs, s.Heap.Cells[5].Refs = 2, 1
	s.Table = kidOf(tableOld)
	return s
}

// with is the sample with something otherwise.
func with(change func(s *api.Store)) api.Store {
	s := sample()
	change(&s)
	return s
}

func mounted(t *testing.T, d api.Dev) api.Store {
	t.Helper()
	s, why := mount.Mount(d)
	if why != api.OK {
		t.Fatalf("Mount: error %d", why)
	}
	return s
}
