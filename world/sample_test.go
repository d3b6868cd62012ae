package world_test

import (
	"slices"
	"strings"
	"testing"

	"cambium/api"
	"cambium/system"
	"cambium/world"
)

// choices are numbers in a mixed order.
type choices uint32

func (x *choices) below(n int) int {
	*x = *x*1664525 + 1013904223
	return int(*x>>8) % n
}

func one[T any](x *choices, l []T) T {
	return l[x.below(len(l))]
}

func letters(n int) string {
	return strings.Repeat("k", n)
}

// like tells if two worlds are one: nil and empty lists are alike.
func like(a, b api.World) bool {
	return a.Up == b.Up && likeStore(a.Store, b.Store)
}

func likeStore(a, b api.Store) bool {
	return a.Dev.Size == b.Dev.Size && a.Dev.Down == b.Dev.Down && a.Dev.Fuse == b.Dev.Fuse &&
		slices.Equal(a.Dev.Blocks, b.Dev.Blocks) && slices.Equal(a.Dev.Waits, b.Dev.Waits) &&
		a.Heap.Size == b.Heap.Size && slices.Equal(a.Heap.Cells, b.Heap.Cells) &&
		a.Slots == b.Slots && a.Valid == b.Valid && a.Table == b.Table
}

func likeHeard(a, b api.Heard) bool {
	return a.Told.Text == b.Told.Text && a.Told.Ino == b.Told.Ino && a.Told.Inode == b.Told.Inode &&
		slices.Equal(a.Told.Entries, b.Told.Entries) && a.Text == b.Text && slices.Equal(a.Names, b.Names) &&
		slices.Equal(a.Volumes, b.Volumes) && slices.Equal(a.Deltas, b.Deltas) && slices.Equal(a.Blocks, b.Blocks)
}

func copied(w api.World) api.World {
	d := &w.Store.Dev
	d.Blocks, d.Waits = slices.Clone(d.Blocks), slices.Clone(d.Waits)
	w.Store.Heap.Cells = slices.Clone(w.Store.Heap.Cells)
	return w
}

// with is a world with something otherwise.
func with(w api.World, change func(w *api.World)) api.World {
	w = copied(w)
	change(&w)
	return w
}

// answer is what a step of Do answers.
type answer struct {
	world api.World
	heard api.Heard
	why   api.Errno
}

func done(w api.World, s api.WorldStep) answer {
	after, heard, why := world.Do(w, s)
	return answer{after, heard, why}
}

func (a answer) want(t *testing.T, what string, want answer) {
	t.Helper()
	if !like(a.world, want.world) || !likeHeard(a.heard, want.heard) || a.why != want.why {
		d := a.world.Store.Dev
		t.Errorf("%s: error %d, not %d; it is so: %v; so is what is heard: %v; up: %v, the device down: %v, at %d, %d wait",
			what, a.why, want.why, like(a.world, want.world), likeHeard(a.heard, want.heard), a.world.Up, d.Down, d.Fuse, len(d.Waits))
	}
}

// wantRefused asks for a world as it was, of which nothing is heard.
func (a answer) wantRefused(t *testing.T, what string, w api.World, why api.Errno) {
	t.Helper()
	a.want(t, what, answer{world: w, why: why})
}

func called(c api.Call) api.WorldStep {
	return api.WorldStep{Kind: api.WorldCall, Call: c}
}

func volStep(kind api.VolOpKind, name, from string) api.WorldStep {
	return called(api.Call{Kind: api.CallVol, Vol: api.VolOp{Kind: kind, Name: name, From: from}})
}

func fileStep(name string, op api.Op) api.WorldStep {
	return called(api.Call{Kind: api.CallFile, Name: name, Op: op})
}

func fuseStep(n int) api.WorldStep {
	return api.WorldStep{Kind: api.WorldFuse, N: n}
}

func crashStep(keep ...bool) api.WorldStep {
	return api.WorldStep{Kind: api.WorldCrash, Keep: keep}
}

func spoilStep(num uint32, data string) api.WorldStep {
	return api.WorldStep{Kind: api.WorldSpoil, Num: num, Data: data}
}

var (
	syncStep  = called(api.Call{Kind: api.CallSync})
	listStep  = called(api.Call{Kind: api.CallList})
	scrubStep = called(api.Call{Kind: api.CallScrub})
	mountStep = api.WorldStep{Kind: api.WorldMount}
)

// fresh is a new world.
func fresh(t *testing.T, size uint32) api.World {
	t.Helper()
	w, why := world.New(size)
	if why != api.OK {
		t.Fatalf("New: error %d", why)
	}
	return w
}

// after is a world in which some steps happened, none of them refused.
func after(t *testing.T, w api.World, steps ...api.WorldStep) api.World {
	t.Helper()
	for i, s := range steps {
		a := done(w, s)
		if a.why != api.OK || world.Check(a.world) != api.OK {
			t.Fatalf("step %d, of kind %d: error %d, then %d", i, s.Kind, a.why, world.Check(a.world))
		}
		w = a.world
	}
	return w
}

// sample is up: it has main, with /a, and s, a snapshot of it; that was synced, and /b is made in main since.
func sample(t *testing.T) api.World {
	t.Helper()
	return after(t, fresh(t, 32),
		volStep(api.VolOpMake, "main", ""), fileStep("main", api.Op{Kind: api.OpMkdir, Path: "/a"}),
		syncStep, volStep(api.VolOpSnap, "s", "main"), syncStep,
		fileStep("main", api.Op{Kind: api.OpMkdir, Path: "/b"}))
}

const sampleFuse = 5 // how much the sample's sync does

// cut is the sample, in whose sync the power went when so much was done.
func cut(t *testing.T, fuse int) api.World {
	t.Helper()
	a := done(after(t, sample(t), fuseStep(fuse)), syncStep)
	if a.why != api.ErrDown || a.world.Up || !a.world.Store.Dev.Down {
		t.Fatalf("sync at %d: error %d", fuse, a.why)
	}
	return a.world
}

// state is what the volumes of a world that is up are, and have.
type state struct {
	vols  []api.Volume
	items map[string][]api.Item
}

func stateOf(t *testing.T, w api.World) state {
	t.Helper()
	a := done(w, listStep)
	if a.why != api.OK {
		t.Fatalf("CallList: error %d", a.why)
	}
	s := state{a.heard.Volumes, map[string][]api.Item{}}
	for _, v := range s.vols {
		l, why := system.Items(w.Store, v.Name)
		if why != api.OK {
			t.Fatalf("Items of %s: error %d", v.Name, why)
		}
		s.items[v.Name] = l
	}
	return s
}

func (a state) is(b state) bool {
	for name, l := range a.items {
		if !slices.Equal(l, b.items[name]) {
			return false
		}
	}
	return slices.Equal(a.vols, b.vols)
}

// isOne tells if a state is one of some.
func (a state) isOne(l ...state) bool {
	return slices.ContainsFunc(l, a.is)
}
