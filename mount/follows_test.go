package mount_test

import (
	"maps"
	"slices"
	"strconv"
	"strings"
	"testing"

	"cambium/api"
	"cambium/dev"
	"cambium/grow"
	"cambium/heap"
	"cambium/mount"
)

// roomy is a store whose lists have room behind them.
func roomy(s api.Store) api.Store {
	s = copied(s)
	s.Dev.Blocks, s.Dev.Waits = slices.Grow(s.Dev.Blocks, 8), slices.Grow(s.Dev.Waits, 8)
	s.Heap.Cells = slices.Grow(s.Heap.Cells, 8)
	return s
}

// nothingBehind tells if the room behind a store's lists is as roomy made it.
func nothingBehind(s api.Store) bool {
	l := slices.Concat(s.Dev.Blocks[len(s.Dev.Blocks):cap(s.Dev.Blocks)], s.Dev.Waits[len(s.Dev.Waits):cap(s.Dev.Waits)])
	for _, c := range s.Heap.Cells[len(s.Heap.Cells):cap(s.Heap.Cells)] {
		l = append(l, api.Block{Num: c.Num, Data: c.Data})
	}
	return !slices.ContainsFunc(l, func(b api.Block) bool { return b != api.Block{} })
}

// overwrite changes everything in a store's lists, and in the room behind them.
func overwrite(s api.Store) {
	for _, l := range [][]api.Block{s.Dev.Blocks, s.Dev.Waits} {
		l = l[:cap(l)]
		for i := range l {
			l[i] = api.Block{Num: 77, Data: "overwritten"}
		}
	}
	cells := s.Heap.Cells[:cap(s.Heap.Cells)]
	for i := range cells {
		cells[i] = api.Cell{Num: 77, Data: "overwritten"}
	}
}

// call is one that answers a store, whether it refuses or not.
type call struct {
	name string
	do   func(s api.Store) (api.Store, api.Errno)
}

func calls() []call {
	device := func(do func(d api.Dev) (api.Dev, api.Errno)) func(s api.Store) (api.Store, api.Errno) {
		return func(s api.Store) (api.Store, api.Errno) {
			d, why := do(s.Dev)
			return api.Store{Dev: d}, why
		}
	}
	down := func(s api.Store) api.Store { s.Dev.Down = true; return s }
	return []call{
		{"Format", device(mount.Format)},
		{"Format of one that is down", func(s api.Store) (api.Store, api.Errno) { return device(mount.Format)(down(s)) }},
		{"Mount", func(s api.Store) (api.Store, api.Errno) { return mount.Mount(s.Dev) }},
		{"Mount of one that is down", func(s api.Store) (api.Store, api.Errno) { return mount.Mount(down(s).Dev) }},
		{"Mount of what is spoilt", func(s api.Store) (api.Store, api.Errno) { s.Dev.Blocks = s.Dev.Blocks[3:]; return mount.Mount(s.Dev) }},
		{"Swap", func(s api.Store) (api.Store, api.Errno) { return mount.Swap(s, s.Heap, s.Table) }},
		{"Swap refused", func(s api.Store) (api.Store, api.Errno) { return mount.Swap(s, s.Heap, api.Kid{}) }},
		{"Commit", mount.Commit},
		{"Commit of one that is down", func(s api.Store) (api.Store, api.Errno) { return mount.Commit(down(s)) }},
		{"Commit of the last generation", func(s api.Store) (api.Store, api.Errno) { return mount.Commit(generation(api.MaxGen, s)) }},
	}
}

// 10.5: what is handed in is not changed, nor what is behind it; answers share nothing with it, nor with one another.
func TestNewMemory(t *testing.T) {
	start := changed()
	start.Dev.Waits = []api.Block{{Num: 14, Data: "w"}}
	for _, c := range calls() {
		s := roomy(start)
		mount.Check(s)
		after, _ := c.do(s)
		if !like(s, start) {
			t.Errorf("%s: it was changed: %v", c.name, s)
		}
		if !nothingBehind(s) {
			t.Errorf("%s: what is behind it was changed", c.name)
		}
		want := copied(after)
		overwrite(s)
		if !like(after, want) {
			t.Errorf("%s: it changed with the argument: %v", c.name, after)
		}
		again, _ := c.do(roomy(start))
		overwrite(after)
		if !like(again, want) {
			t.Errorf("%s: the next answer is %v, not %v", c.name, again, want)
		}
	}
}

// 10.5: a store that is swapped shares nothing with the heap that is handed in.
func TestSwapKeepsNothing(t *testing.T) {
	s, with := roomy(sample()), roomy(changed())
	after, _ := mount.Swap(s, with.Heap, with.Table)
	overwrite(s)
	overwrite(with)
	if !like(after, changed()) {
		t.Errorf("Swap: it changed with the arguments: %v", after)
	}
}

// choices are numbers in a mixed order.
type choices uint32

func (x *choices) below(n int) int {
	*x = *x*1664525 + 1013904223
	return int(*x>>16) % n
}

// items are some of a few, with some of a few values each.
func (x *choices) items() []api.Item {
	var l []api.Item
	for i := range 5 {
		if x.below(2) == 0 {
			l = append(l, api.Item{Key: "k" + strconv.Itoa(i), Val: strings.Repeat(strconv.Itoa(x.below(2)), 140)})
		}
	}
	return l
}

// next is a store with another table, of up to three trees; as it is, if there is no room.
func (x *choices) next(t *testing.T, s api.Store) api.Store {
	t.Helper()
	h, n := s.Heap, api.Node{Kind: api.NodeTable}
	for i := range x.below(4) {
		after, root, why := grow.Build(h, x.items())
		if why == api.ErrFull {
			return s
		}
		h = after
		n.Volumes = append(n.Volumes, api.Volume{Name: "v" + strconv.Itoa(i), Kind: api.VolBranch, Root: root.Num, Hash: root.Hash})
	}
	h, kid, why := heap.Put(h, n)
	if why == api.ErrFull {
		return s
	}
	h, _ = heap.Hold(h, kid.Num)
	h, _ = heap.Drop(h, s.Table.Num)
	h, _ = heap.Sweep(h)
	after, why := mount.Swap(s, h, kid)
	if why != api.OK || mount.Check(after) != api.OK {
		t.Fatalf("Swap: error %d, then %d", why, mount.Check(after))
	}
	return after
}

// kept are choices of what is kept of n writes: all there are, if they are few, else some.
func (x *choices) kept(n int) [][]bool {
	var l [][]bool
	for bits := range 1 << min(n, 6) {
		keep := make([]bool, n)
		for i := range keep {
			keep[i] = bits>>i&1 == 1
			if n > 6 {
				keep[i] = x.below(3) > 0
			}
		}
		l = append(l, keep)
	}
	all := slices.Repeat([]bool{true}, n)
	return append(l, nil, all, all[:n/2])
}

// state is what a store's table leads to, and which one it is.
type state struct {
	table api.Kid
	below map[uint32]string
}

func stateOf(s api.Store) state {
	return state{s.Table, below(s.Heap, s.Table.Num)}
}

func (a state) is(b state) bool {
	return a.table == b.table && maps.Equal(a.below, b.below)
}

// wantWhole has the power go at each step of a store's Commit: mounted again it is of the last state, or of the store's. One that is mounted so is answered.
func wantWhole(t *testing.T, s api.Store, last state, x *choices) api.Store {
	t.Helper()
	var some api.Store
	next, wasLast, wasNext := stateOf(s), false, false
	for fuse := 0; ; fuse++ {
		s.Dev.Fuse = fuse
		after, why := mount.Commit(s)
		if why == api.OK {
			break
		}
		if why != api.ErrDown || !like(after, api.Store{Dev: after.Dev}) {
			t.Fatalf("Commit at %d: %v, error %d", fuse, after, why)
		}
		for _, keep := range x.kept(len(after.Dev.Waits)) {
			d, _ := dev.Crash(after.Dev, keep)
			m := mounted(t, d)
			now := stateOf(m)
			wasLast, wasNext = wasLast || now.is(last), wasNext || now.is(next)
			if !now.is(last) && !now.is(next) || mount.Check(m) != api.OK {
				t.Fatalf("Commit at %d, kept %v: mounted it is %v, error %d", fuse, keep, m, mount.Check(m))
			}
			if some.Heap.Size == 0 || x.below(20) == 0 {
				some = m
			}
		}
	}
	if !wasLast || !wasNext {
		t.Errorf("mounted again it is never what it was, or never what it is: %v, %v", wasLast, wasNext)
	}
	return some
}

// wantLasting is a store behind its Commit: it is what its device is mounted as, whatever a crash keeps.
func wantLasting(t *testing.T, s api.Store) api.Store {
	t.Helper()
	after, why := mount.Commit(s)
	if why != api.OK || mount.Check(after) != api.OK || !stateOf(after).is(stateOf(s)) {
		t.Fatalf("Commit: error %d, then %d", why, mount.Check(after))
	}
	d, _ := dev.Crash(after.Dev, nil)
	if m := mounted(t, d); !like(m, after) {
		t.Fatalf("Mount: %v, not %v", m, after)
	}
	return after
}

// wantElder spoils each block that is the newest superblock's alone, and its slot: what is mounted is the elder one's.
func wantElder(t *testing.T, s api.Store) {
	t.Helper()
	newest := 0
	if s.Slots[1].Gen > s.Slots[0].Gen {
		newest = 1
	}
	elder := s.Slots[1-newest]
	want := state{api.Kid{Num: elder.Table, Hash: elder.Hash}, below(s.Heap, elder.Table)}
	nums := []uint32{uint32(newest)}
	for num := range below(s.Heap, s.Slots[newest].Table) {
		if _, both := want.below[num]; !both {
			nums = append(nums, num)
		}
	}
	for _, num := range nums {
		was, _ := dev.Read(s.Dev, num)
		turned := []byte(was)
		turned[len(turned)/2] ^= 4
		for _, data := range []string{"", "spoilt", string(turned), was + "x", blockOf(2, leaf("A")).Data, blockOf(2, table()).Data} {
			d, why := dev.Spoil(s.Dev, num, data)
			if after, _ := dev.Read(d, num); why != api.OK || after == was {
				continue
			}
			m := mounted(t, d)
			if !stateOf(m).is(want) || m.Slots[1-newest] != elder || m.Valid[newest] || mount.Check(m) != api.OK {
				t.Fatalf("spoilt: %d, %q: mounted it is %v, error %d", num, data, m, mount.Check(m))
			}
		}
	}
}

// 10.6, 10.7 and 10.8: whatever is done to a store, where the power goes, and what is spoilt of the newest superblock's, it stays right, and has what it was to have.
func TestWholeRightAndSpoilt(t *testing.T) {
	for _, size := range []uint32{16, 19, 24, 40} {
		x := choices(size)
		d, _ := mount.Format(api.Dev{Size: size, Fuse: -1})
		s := mounted(t, d)
		last := stateOf(s)
		gone, lasting := 0, 0
		for range 40 {
			for range 1 + x.below(2) {
				s = x.next(t, s)
			}
			crashed := wantWhole(t, s, last, &x)
			if x.below(3) == 0 {
				s = crashed
				gone++
			} else {
				s = wantLasting(t, s)
				lasting++
			}
			last = stateOf(s)
			if s.Valid[0] && s.Valid[1] {
				wantElder(t, s)
			}
		}
		if gone < 5 || lasting < 5 {
			t.Errorf("size %d: the power went %d times, %d times it did not", size, gone, lasting)
		}
	}
}

// 10.8: with the newest superblock of the sample spoilt, or what it alone leads to, the elder one is mounted; with the elder one spoilt the newer one.
func TestSpoilt(t *testing.T) {
	for _, num := range []uint32{1, 7, 9} {
		d, _ := dev.Spoil(sampleDev(), num, "spoilt")
		if s := mounted(t, d); !like(s, elderAlone(d)) {
			t.Errorf("spoilt: %d: Mount: %v", num, s)
		}
	}
	for _, num := range []uint32{0, 4, 5, 6} {
		d, _ := dev.Spoil(sampleDev(), num, "spoilt")
		if s := mounted(t, d); !like(s, newerAlone(d)) {
			t.Errorf("spoilt: %d: Mount: %v", num, s)
		}
	}
}
