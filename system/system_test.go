package system_test

import (
	"math"
	"slices"
	"testing"

	"cambium/api"
	"cambium/dev"
	"cambium/dirs"
	"cambium/hash"
	"cambium/mount"
	"cambium/node"
	"cambium/system"
	"cambium/vol"
)

func wrongDevices() []api.Dev {
	return []api.Dev{
		{},
		{Size: api.MinBlocks - 1, Fuse: 3},
		{Size: api.MaxBlocks + 1, Down: true},
		{Size: 16, Blocks: []api.Block{{Num: 3}}, Fuse: -1},
		{Size: 16, Blocks: []api.Block{{Num: 16, Data: "x"}}, Fuse: -1},
		{Size: 16, Waits: []api.Block{{Num: 3, Data: "x\x00"}}},
		{Size: 16, Waits: make([]api.Block, api.MaxWaits+1), Down: true},
	}
}

// 19.1: a new system is what a device that is made new is taken into use as, whatever it had.
func TestNew(t *testing.T) {
	used := sample(t).Dev
	used.Fuse = 5
	for _, d := range []api.Dev{
		{Size: api.MinBlocks, Fuse: -1},
		{Size: api.MaxBlocks, Fuse: 100},
		{Size: 17, Blocks: []api.Block{{Num: 0, Data: "x"}, {Num: 16, Data: "y"}}, Waits: []api.Block{{Num: 2, Data: "z"}}, Fuse: -1},
		used,
	} {
		made, _ := mount.Format(d)
		want, wantWhy := mount.Mount(made)
		s, why := system.New(d)
		if !like(s, want) || why != api.OK || wantWhy != api.OK || system.Check(s) != api.OK {
			t.Errorf("New: %v, error %d, then %d", s, why, system.Check(s))
		}
		if a := asked(s, api.Call{Kind: api.CallList}); len(a.heard.Volumes) != 0 || a.why != api.OK {
			t.Errorf("New: it has %v, error %d", a.heard.Volumes, a.why)
		}
	}
}

// 19.1: the error of the device's making is told beside the device as it is then, and nothing else.
func TestNewRefused(t *testing.T) {
	for i, d := range wrongDevices() {
		if s, why := system.New(d); !like(s, api.Store{}) || why != api.ErrState {
			t.Errorf("wrong device %d: New: %v, error %d", i, s, why)
		}
	}
	used := sample(t).Dev
	down := used
	down.Down = true
	full := api.Dev{Size: 16, Waits: make([]api.Block, api.MaxWaits), Fuse: -1}
	nearly := api.Dev{Size: 16, Waits: make([]api.Block, api.MaxWaits-1), Fuse: 2}
	devices := []api.Dev{down, full, nearly}
	for fuse := range 5 {
		d := used
		d.Fuse = fuse
		devices = append(devices, d)
	}
	for i, d := range devices {
		made, want := mount.Format(d)
		if s, why := system.New(d); want == api.OK || !like(s, bare(made)) || why != want {
			t.Errorf("%d: New: %v, error %d, not %d", i, s, why, want)
		}
	}
}

// 19.1: a device that has a system is taken into use as Mount does it.
func TestOpen(t *testing.T) {
	d := sample(t).Dev
	want, _ := mount.Mount(d)
	s, why := system.Open(d)
	if !like(s, want) || why != api.OK || system.Check(s) != api.OK || s.Slots[0].Gen != 4 {
		t.Errorf("Open: %v, error %d", s.Slots, why)
	}
	spoilt, _ := dev.Spoil(d, 0, "spoilt")
	want, _ = mount.Mount(spoilt)
	if s, why := system.Open(spoilt); !like(s, want) || why != api.OK || s.Slots[1].Gen != 3 || s.Valid[0] {
		t.Errorf("Open of what is spoilt: %v, error %d", s.Slots, why)
	}
}

// 19.1: what Mount refuses is told as it tells it.
func TestOpenRefused(t *testing.T) {
	for i, d := range wrongDevices() {
		if s, why := system.Open(d); !like(s, api.Store{}) || why != api.ErrState {
			t.Errorf("wrong device %d: Open: %v, error %d", i, s, why)
		}
	}
	down := sample(t).Dev
	down.Down = true
	if s, why := system.Open(down); !like(s, bare(down)) || why != api.ErrDown {
		t.Errorf("Open of one that is down: %v, error %d", s, why)
	}
	for _, d := range []api.Dev{
		{Size: 16, Fuse: 7},
		{Size: 16, Blocks: []api.Block{{Num: 1, Data: "x"}}, Waits: []api.Block{{Num: 9, Data: "y"}}, Fuse: -1},
	} {
		if s, why := system.Open(d); !like(s, bare(d)) || why != api.ErrBad {
			t.Errorf("Open of one that has no system: %v, error %d", s, why)
		}
	}
}

// 19.1: a device whose newest table has what is no right volume is no system's, even if the elder one's are.
func TestOpenOfWrongVolumes(t *testing.T) {
	for what, l := range wrongVolumes() {
		d := committed(t, having(t, sample(t), "wrong", l)).Dev
		d.Waits = []api.Block{{Num: 63, Data: "waits"}}
		d.Fuse = 9
		if s, why := system.Open(d); !like(s, bare(d)) || why != api.ErrBad {
			t.Errorf("%s: Open: %v, error %d", what, s, why)
		}
		d, _ = dev.Spoil(d, 1, "spoilt")
		if s, why := system.Open(d); why != api.OK || s.Slots[0].Gen != 4 {
			t.Errorf("%s: Open, the newest superblock spoilt: %v, error %d", what, s.Slots, why)
		}
	}
}

// wrongSystems are stores that are no right systems, of all kinds.
func wrongSystems(t *testing.T) map[string]api.Store {
	t.Helper()
	s := sample(t)
	with := func(change func(s *api.Store)) api.Store {
		s := copied(s)
		change(&s)
		return s
	}
	out := map[string]api.Store{
		"nothing":            {},
		"a device alone":     bare(s.Dev),
		"no device":          with(func(s *api.Store) { s.Dev = api.Dev{} }),
		"a wrong device":     with(func(s *api.Store) { s.Dev.Waits = []api.Block{{Num: sampleSize, Data: "x"}} }),
		"a wrong heap":       with(func(s *api.Store) { s.Heap.Cells[0].Refs++ }),
		"no heap":            with(func(s *api.Store) { s.Heap = api.Heap{} }),
		"another Size":       with(func(s *api.Store) { s.Heap.Size++ }),
		"no slot":            with(func(s *api.Store) { s.Valid = [2]bool{} }),
		"the other slot":     with(func(s *api.Store) { s.Slots[0], s.Slots[1] = s.Slots[1], s.Slots[0] }),
		"no table":           with(func(s *api.Store) { s.Table = api.Kid{} }),
		"a table with a Key": with(func(s *api.Store) { s.Table.Key = "k" }),
		"another Hash":       with(func(s *api.Store) { s.Table.Hash[0]++ }),
	}
	for what, l := range wrongVolumes() {
		for _, name := range []string{"a", "n", "z"} {
			out[what+", as "+name] = having(t, s, name, l)
		}
		out[what+", alone"] = having(t, fresh(t, sampleSize), "n", l)
		out[what+", behind a Commit"] = committed(t, committed(t, having(t, s, "n", l)))
	}
	out["a table as a tree"] = treeOf(api.Node{Kind: api.NodeTable})
	wrongKey := api.Kid{Key: "other", Num: 2, Hash: hash.Sum(leafData())}
	out["a tree that is not right"] = treeOf(api.Node{Kind: api.NodeBranch, Kids: []api.Kid{wrongKey}})
	return out
}

// leafData is that of a leaf which has what a new volume has.
func leafData() string {
	data, _ := node.Encode(api.Node{Kind: api.NodeLeaf, Items: dirs.New()})
	return data
}

// treeOf is a right store whose table has the volume v: its root is a node that leads to the block 2, of leafData, or to nothing.
func treeOf(n api.Node) api.Store {
	root, _ := node.Encode(n)
	v := api.Volume{Name: "v", Kind: api.VolBranch, Root: 3, Hash: hash.Sum(root)}
	l := api.Volume{Name: "l", Kind: api.VolSnap, Root: 2, Hash: hash.Sum(leafData())}
	table, _ := node.Encode(api.Node{Kind: api.NodeTable, Volumes: []api.Volume{l, v}})
	kid := api.Kid{Num: 5, Hash: hash.Sum(table)}
	s := api.Store{Dev: api.Dev{Size: 16}, Heap: api.Heap{Size: 16}, Table: kid}
	s.Heap.Cells = []api.Cell{{Num: 2, Data: leafData(), Refs: 1 + len(node.Kids(n))}, {Num: 3, Data: root, Refs: 1}, {Num: 5, Data: table, Refs: 2}}
	s.Slots[1], s.Valid[1] = api.Super{Size: 16, Gen: 7, Table: 5, Hash: kid.Hash}, true
	return s
}

func allCalls() []api.Call {
	var calls []api.Call
	for kind := range api.CallCount + 2 {
		calls = append(calls, api.Call{Kind: kind}, api.Call{Kind: kind, Name: "main", From: "s", Vol: api.VolOp{Kind: api.VolOpMake, Name: "new"}, Op: api.Op{Kind: api.OpMkdir, Path: "/new"}})
	}
	return append(calls, api.Call{Kind: math.MaxUint8})
}

// 19, Words and 19.1: what is no right system is told ahead of all else, and all else is zero.
func TestWrongSystems(t *testing.T) {
	for what, s := range wrongSystems(t) {
		if why := system.Check(s); why != api.ErrState {
			t.Errorf("%s: Check: error %d", what, why)
		}
		for _, name := range []string{"", "main", "none"} {
			if l, why := system.Items(s, name); l != nil || why != api.ErrState {
				t.Errorf("%s: Items of %q: %v, error %d", what, name, l, why)
			}
		}
		for _, c := range allCalls() {
			asked(s, c).wantRefused(t, what, api.Store{}, api.ErrState)
		}
	}
}

// anyStore is a right store of which something is otherwise, at random.
func (x *choices) anyStore(s api.Store) api.Store {
	s = copied(s)
	for n := 1 + x.below(2); n > 0 && len(s.Heap.Cells) > 0; n-- {
		slot, at := x.below(2), x.below(len(s.Heap.Cells))
		switch x.below(14) {
		case 0:
			s.Dev.Size = uint32(x.below(70))
		case 1:
			s.Dev.Waits = append(s.Dev.Waits, api.Block{Num: uint32(x.below(70)), Data: one(x, []string{"", "x", "x\x00"})})
		case 2:
			s.Heap.Size = uint32(x.below(70))
		case 3:
			s.Heap.Cells[at].Refs += x.below(5) - 2
		case 4:
			s.Heap.Cells[at].Num += uint32(x.below(5) - 2)
		case 5:
			s.Heap.Cells[at].Data = one(x, s.Heap.Cells).Data
		case 6:
			s.Heap.Cells = slices.Delete(s.Heap.Cells, at, at+1)
		case 7:
			s.Slots[slot].Gen = one(x, []uint64{0, 1, 2, 5, 6, api.MaxGen, api.MaxGen - 1, api.MaxGen + 2, math.MaxUint64})
		case 8:
			s.Slots[slot].Table = one(x, s.Heap.Cells).Num
		case 9:
			s.Valid[slot] = false
		case 10:
			s.Slots[slot], s.Valid[slot] = api.Super{}, false
		case 11:
			s.Table.Num = uint32(x.below(70))
		case 12:
			s.Table.Hash[x.below(32)] ^= 1
		case 13:
			s.Dev.Down, s.Dev.Fuse = true, x.below(9)-4
		}
	}
	return s
}

// P1, 19, Words: whatever a store is, it is right or not as the words say, and each call ends.
func TestAnyStore(t *testing.T) {
	x := choices(3)
	states, right := []api.Store{sample(t), filled(t), having(t, sample(t), "n", nil), fresh(t, 16)}, 0
	for range 300 {
		s := x.anyStore(one(&x, states))
		want := mount.Check(s)
		vols, _ := vol.List(s.Heap, s.Table)
		for _, v := range vols {
			if l, why := vol.Items(s.Heap, s.Table, v.Name); why != api.OK || dirs.Check(l) != api.OK {
				want = api.ErrState
			}
		}
		if why := system.Check(s); why != want {
			t.Fatalf("Check: error %d, not %d", why, want)
		}
		if want == api.OK {
			right++
		}
		for range 4 {
			c := one(&x, allCalls())
			if a := asked(s, c); want == api.OK {
				a.want(t, "a right one", worded(s, c))
			} else {
				a.wantRefused(t, "one that is not right", api.Store{}, api.ErrState)
			}
		}
	}
	if right < 15 || right > 285 {
		t.Errorf("%d are right", right)
	}
}

// 19, Words: what is right of a system, be it made by hand.
func TestRightSystems(t *testing.T) {
	down := sample(t)
	down.Dev.Down = true
	blank := sample(t)
	blank.Dev.Blocks = nil
	waits := sample(t)
	waits.Dev.Waits = make([]api.Block, api.MaxWaits)
	branch := treeOf(api.Node{Kind: api.NodeBranch, Kids: []api.Kid{{Key: dirs.New()[0].Key, Num: 2, Hash: hash.Sum(leafData())}}})
	for what, s := range map[string]api.Store{
		"the sample":       sample(t),
		"a new one":        fresh(t, api.MinBlocks),
		"one that is down": down,
		"a blank device":   blank,
		"much that waits":  waits,
		"a branch of one":  branch,
	} {
		if why := system.Check(s); why != api.OK {
			t.Errorf("%s: Check: error %d", what, why)
		}
	}
}

// 19, Words: it is Table's volumes that are to be right, and no slot's.
func TestWrongVolumesOfASlot(t *testing.T) {
	s := committed(t, having(t, sample(t), "wrong", nil))
	h, table, why := vol.Do(s.Heap, s.Table, api.VolOp{Kind: api.VolOpDelete, Name: "wrong"}, 1)
	if why != api.OK {
		t.Fatalf("Do: error %d", why)
	}
	s, why = mount.Swap(s, h, table)
	if why != api.OK || system.Check(s) != api.OK {
		t.Errorf("Check: error %d, %d", why, system.Check(s))
	}
	after(t, s, fileCall("main", api.OpMkdir, "/m"), syncCall)
}

// 19.1: Items tells what vol.Items tells.
func TestItems(t *testing.T) {
	s := sample(t)
	for _, name := range []string{"main", "s", "work", "", "a", "mai", "mainn", "z", letters(1000)} {
		want, wantWhy := vol.Items(s.Heap, s.Table, name)
		if l, why := system.Items(s, name); !slices.Equal(l, want) || why != wantWhy || (why == api.OK) != (len(l) > 0) {
			t.Errorf("Items of %q: %v, error %d, not %d", name, l, why, wantWhy)
		}
	}
	if l, why := system.Items(fresh(t, 16), "main"); l != nil || why != api.ErrNone {
		t.Errorf("Items of a new one: %v, error %d", l, why)
	}
}
