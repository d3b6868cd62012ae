package world_test

import (
	"math"
	"testing"

	"cambium/api"
	"cambium/dev"
	"cambium/mount"
	"cambium/system"
	"cambium/vol"
	"cambium/world"
)

// 20.1: a new world is up, of a new system on a device of that Size.
func TestNew(t *testing.T) {
	for _, size := range []uint32{api.MinBlocks, api.MinBlocks + 1, 1000, api.MaxBlocks - 1, api.MaxBlocks} {
		want, _ := system.New(api.Dev{Size: size, Fuse: -1})
		w, why := world.New(size)
		if !like(w, api.World{Up: true, Store: want}) || why != api.OK || world.Check(w) != api.OK || w.Store.Dev.Size != size || w.Store.Dev.Fuse != -1 {
			t.Errorf("New of %d: %v, error %d", size, w, why)
		}
	}
	for _, size := range []uint32{0, 1, api.MinBlocks - 1, api.MaxBlocks + 1, math.MaxUint32} {
		if w, why := world.New(size); !like(w, api.World{}) || why != api.ErrRange {
			t.Errorf("New of %d: %v, error %d", size, w, why)
		}
	}
}

// downWorlds are worlds that are not up, all of them right.
func downWorlds(t *testing.T) []api.World {
	t.Helper()
	full := api.Dev{Size: api.MaxBlocks, Waits: make([]api.Block, api.MaxWaits), Fuse: 3}
	out := []api.World{
		after(t, sample(t), crashStep()),
		{Store: api.Store{Dev: api.Dev{Size: 16}}},
		{Store: api.Store{Dev: full, Heap: api.Heap{Cells: []api.Cell{}}}},
	}
	for fuse := range sampleFuse {
		out = append(out, cut(t, fuse))
	}
	return out
}

// 20, Words and 20.1: a world that is up has a right system; one that is not has nothing but a right device.
func TestRightWorlds(t *testing.T) {
	up := sample(t)
	for i, w := range append(downWorlds(t), up, fresh(t, 16), with(up, func(w *api.World) { w.Store.Dev.Down = true })) {
		if why := world.Check(w); why != api.OK {
			t.Errorf("%d: Check: error %d", i, why)
		}
	}
}

func wrongWorlds(t *testing.T) map[string]api.World {
	t.Helper()
	up := sample(t)
	down := after(t, up, crashStep())
	s := up.Store
	h, table, why := vol.Add(s.Heap, s.Table, "wrong", "", nil, 1)
	if why == api.OK {
		s, why = mount.Swap(s, h, table)
	}
	if why != api.OK {
		t.Fatalf("a wrong volume: error %d", why)
	}
	return map[string]api.World{
		"nothing":               {},
		"nothing, up":           {Up: true},
		"a device, up":          {Up: true, Store: down.Store},
		"a system, not up":      {Store: up.Store},
		"a wrong volume":        {Up: true, Store: s},
		"a wrong heap":          with(up, func(w *api.World) { w.Store.Heap.Cells[0].Refs++ }),
		"a wrong device, up":    with(up, func(w *api.World) { w.Store.Dev.Size++ }),
		"a wrong device":        with(down, func(w *api.World) { w.Store.Dev.Size = api.MinBlocks - 1 }),
		"a block that is wrong": with(down, func(w *api.World) { w.Store.Dev.Blocks[0].Data = "" }),
		"a Size of a heap":      with(down, func(w *api.World) { w.Store.Heap.Size = 32 }),
		"a cell":                with(down, func(w *api.World) { w.Store.Heap.Cells = []api.Cell{{}} }),
		"the first slot":        with(down, func(w *api.World) { w.Store.Slots[0].Gen = 2 }),
		"the second slot":       with(down, func(w *api.World) { w.Store.Slots[1].Table = 2 }),
		"the first is Valid":    with(down, func(w *api.World) { w.Store.Valid[0] = true }),
		"the second is Valid":   with(down, func(w *api.World) { w.Store.Valid[1] = true }),
		"a table":               with(down, func(w *api.World) { w.Store.Table.Num = 2 }),
		"a table's Hash":        with(down, func(w *api.World) { w.Store.Table.Hash[31] = 2 }),
		"a table's Key":         with(down, func(w *api.World) { w.Store.Table.Key = "k" }),
	}
}

func allSteps() []api.WorldStep {
	steps := []api.WorldStep{syncStep, listStep, spoilStep(3, "x"), spoilStep(math.MaxUint32, letters(1000)), crashStep(true), fuseStep(-3), {Kind: math.MaxUint8}}
	for kind := range api.WorldCount + 2 {
		steps = append(steps, api.WorldStep{Kind: kind})
	}
	return steps
}

// 20.1, 20.2: what is no right world is told ahead of all else, and all else is zero.
func TestWrongWorlds(t *testing.T) {
	for what, w := range wrongWorlds(t) {
		if why := world.Check(w); why != api.ErrState {
			t.Errorf("%s: Check: error %d", what, why)
		}
		for _, s := range allSteps() {
			done(w, s).wantRefused(t, what, api.World{}, api.ErrState)
		}
	}
}

// 20.2: of no kind nothing happens, up or not.
func TestNoKind(t *testing.T) {
	for _, w := range append(downWorlds(t), sample(t)) {
		for _, kind := range []api.WorldKind{api.WorldNone, api.WorldCount, api.WorldCount + 1, math.MaxUint8} {
			s := api.WorldStep{Kind: kind, Call: api.Call{Kind: api.CallSync}, N: 4, Keep: []bool{true}, Num: 2, Data: "x"}
			done(w, s).wantRefused(t, "no kind", w, api.ErrForm)
		}
	}
}

// 20.2: a call is the system's: what that tells is told, be it an error or not, and the world stays up.
func TestWorldCall(t *testing.T) {
	w := sample(t)
	text := done(w, called(api.Call{Kind: api.CallSend, Name: "main", From: "s"})).heard.Text
	for what, x := range map[string]struct {
		call api.Call
		want api.Errno
	}{
		"list":            {api.Call{Kind: api.CallList}, api.OK},
		"log":             {api.Call{Kind: api.CallLog, Name: "s"}, api.OK},
		"a directory":     {api.Call{Kind: api.CallFile, Name: "main", Op: api.Op{Kind: api.OpMkdir, Path: "/c"}}, api.OK},
		"entries":         {api.Call{Kind: api.CallFile, Name: "s", Op: api.Op{Kind: api.OpList, Path: "/"}}, api.OK},
		"a volume":        {api.Call{Kind: api.CallVol, Vol: api.VolOp{Kind: api.VolOpMake, Name: "new"}}, api.OK},
		"paths":           {api.Call{Kind: api.CallPaths, Name: "main", From: "s"}, api.OK},
		"send":            {api.Call{Kind: api.CallSend, Name: "main", From: "s"}, api.OK},
		"take":            {api.Call{Kind: api.CallTake, Name: "new", From: "s", Text: text}, api.OK},
		"scrub":           {api.Call{Kind: api.CallScrub}, api.OK},
		"sync":            {api.Call{Kind: api.CallSync}, api.OK},
		"no kind":         {api.Call{Kind: api.CallCount}, api.ErrForm},
		"no volume":       {api.Call{Kind: api.CallLog, Name: "none"}, api.ErrNone},
		"a snapshot":      {api.Call{Kind: api.CallFile, Name: "s", Op: api.Op{Kind: api.OpMkdir, Path: "/c"}}, api.ErrSnap},
		"not a stream":    {api.Call{Kind: api.CallTake, Name: "new"}, api.ErrStream},
		"below itself":    {api.Call{Kind: api.CallFile, Name: "main", Op: api.Op{Kind: api.OpRename, Path: "/a", To: "/a/c"}}, api.ErrState},
		"there already":   {api.Call{Kind: api.CallVol, Vol: api.VolOp{Kind: api.VolOpMake, Name: "main"}}, api.ErrTwice},
		"a directory cut": {api.Call{Kind: api.CallFile, Name: "main", Op: api.Op{Kind: api.OpCut, Path: "/a"}}, api.ErrDir},
		"a wrong stream":  {api.Call{Kind: api.CallTake, Name: "new", From: "s", Text: text + "x"}, api.ErrStream},
	} {
		store, heard, why := system.Do(w.Store, x.call)
		done(w, called(x.call)).want(t, what, answer{api.World{Up: true, Store: store}, heard, x.want})
		if why != x.want {
			t.Errorf("%s: system.Do: error %d", what, why)
		}
	}
}

// 20.2: an error that a sync may have is one of other calls, too: with these the world stays up, as it was.
func TestErrorsOfOtherCalls(t *testing.T) {
	w := sample(t)
	for name := range 6 {
		w = done(w, volStep(api.VolOpMake, string(rune('a'+name)), "")).world
	}
	done(w, volStep(api.VolOpMake, "z", "")).wantRefused(t, "too many volumes", w, api.ErrRange)
	small := after(t, fresh(t, 16), volStep(api.VolOpMake, "main", ""), fileStep("main", api.Op{Kind: api.OpMake, Path: "/f"}))
	done(small, fileStep("main", api.Op{Kind: api.OpWrite, Path: "/f", Data: letters(9000)})).wantRefused(t, "no room", small, api.ErrFull)
	down := with(w, func(w *api.World) { w.Store.Dev.Down = true })
	done(down, scrubStep).wantRefused(t, "a scrub of what is down", down, api.ErrDown)
}

// 20.2: nothing is called of a world that is not up, whatever it is.
func TestCallOfWhatIsNotUp(t *testing.T) {
	for _, w := range downWorlds(t) {
		for kind := range api.CallCount + 2 {
			done(w, called(api.Call{Kind: kind})).wantRefused(t, "it is not up", w, api.ErrDown)
		}
	}
}

// 20.2: with a sync that is refused the world goes down, and has what that tells; but behind the last generation it stays up.
func TestSyncRefused(t *testing.T) {
	w := sample(t)
	downs := 0
	for fuse := range 12 {
		w.Store.Dev.Fuse = fuse
		store, _, why := system.Do(w.Store, api.Call{Kind: api.CallSync})
		done(w, syncStep).want(t, "sync", answer{world: api.World{Up: why == api.OK, Store: store}, why: why})
		if why == api.ErrDown {
			downs++
		}
	}
	if downs != sampleFuse {
		t.Errorf("the power went %d times", downs)
	}
	full := with(w, func(w *api.World) { w.Store.Dev.Waits = make([]api.Block, api.MaxWaits) })
	done(full, syncStep).want(t, "too much waits", answer{world: api.World{Store: api.Store{Dev: full.Store.Dev}}, why: api.ErrFull})
	nearly := with(w, func(w *api.World) { w.Store.Slots[1].Gen, w.Store.Dev.Fuse = api.MaxGen-1, -1 })
	last := after(t, nearly, syncStep)
	done(last, syncStep).wantRefused(t, "the last generation", last, api.ErrRange)
	down := with(w, func(w *api.World) { w.Store.Dev.Down = true })
	done(down, syncStep).want(t, "a device that is down", answer{world: api.World{Store: api.Store{Dev: down.Store.Dev}}, why: api.ErrDown})
}

// 20.2: the fuse is what is said, up or not.
func TestWorldFuse(t *testing.T) {
	for _, w := range append(downWorlds(t), sample(t)) {
		for n, want := range map[int]int{0: 0, 1: 1, 7: 7, -1: -1, -2: -1, math.MaxInt: math.MaxInt, math.MinInt: -1} {
			done(w, fuseStep(n)).want(t, "a fuse", answer{world: with(w, func(w *api.World) { w.Store.Dev.Fuse = want })})
		}
	}
}

// 20.2: behind a crash there is what is left of the device, and the power is on.
func TestWorldCrash(t *testing.T) {
	up := sample(t)
	waits := with(up, func(w *api.World) {
		w.Store.Dev.Waits = []api.Block{{Num: 3, Data: "x"}, {Num: 9, Data: "y"}, {Num: 3, Data: "z"}}
	})
	burnt := with(waits, func(w *api.World) { w.Store.Dev.Down, w.Store.Dev.Fuse = true, 0 })
	for i, w := range append(downWorlds(t), up, waits, burnt) {
		for _, keep := range [][]bool{nil, {true}, {false, true}, {true, true, true}, {false, false, true}, make([]bool, 100), {true, false, true, true, true, true, true, true, true, true}} {
			d, why := dev.Crash(w.Store.Dev, keep)
			a := done(w, crashStep(keep...))
			a.want(t, "a crash", answer{world: api.World{Store: api.Store{Dev: d}}, why: why})
			if d.Down || d.Fuse != -1 || len(d.Waits) != 0 || why != api.OK {
				t.Errorf("%d: Crash: %v, error %d", i, d, why)
			}
		}
	}
}

// 20.2: a world that is not up is up again, if its device has a right system.
func TestWorldMount(t *testing.T) {
	up := sample(t)
	done(up, mountStep).wantRefused(t, "it is up", up, api.ErrState)
	downUp := with(up, func(w *api.World) { w.Store.Dev.Down = true })
	done(downUp, mountStep).wantRefused(t, "it is up, and the device down", downUp, api.ErrState)
	crashed := after(t, up, crashStep())
	store, _ := system.Open(crashed.Store.Dev)
	done(crashed, mountStep).want(t, "mount", answer{world: api.World{Up: true, Store: store}})
	for fuse := range sampleFuse {
		w := cut(t, fuse)
		done(w, mountStep).wantRefused(t, "it is down", w, api.ErrDown)
	}
	blank := api.World{Store: api.Store{Dev: api.Dev{Size: 16, Blocks: []api.Block{{Num: 1, Data: "x"}}, Waits: []api.Block{{Num: 2, Data: "y"}}, Fuse: 7}}}
	done(blank, mountStep).wantRefused(t, "a device that has none", blank, api.ErrBad)
	wrong := wrongWorlds(t)["a wrong volume"].Store
	wrong, why := mount.Commit(wrong)
	bad := api.World{Store: api.Store{Dev: wrong.Dev}}
	done(bad, mountStep).wantRefused(t, "a system that is not right", bad, api.ErrBad)
	if why != api.OK {
		t.Errorf("Commit: error %d", why)
	}
	waiting := with(crashed, func(w *api.World) { w.Store.Dev.Waits = []api.Block{{Num: 1, Data: "x"}} })
	store, _ = system.Open(waiting.Store.Dev)
	done(waiting, mountStep).want(t, "what waits is read", answer{world: api.World{Up: true, Store: store}})
	if store.Valid[1] {
		t.Error("the slot 1 is Valid")
	}
}

// 20.2: a block is spoilt on the medium, up or not.
func TestWorldSpoil(t *testing.T) {
	for _, w := range append(downWorlds(t), sample(t), with(sample(t), func(w *api.World) { w.Store.Dev.Down = true })) {
		size := w.Store.Dev.Size
		for _, num := range []uint32{0, 1, 2, size - 1, size, math.MaxUint32} {
			for _, data := range []string{"", "x", "x\x00\x00", letters(api.BlockSize), letters(api.BlockSize + 1)} {
				d, why := dev.Spoil(w.Store.Dev, num, data)
				done(w, spoilStep(num, data)).want(t, "spoil", answer{world: with(w, func(w *api.World) { w.Store.Dev = d }), why: why})
				if (why == api.ErrRange) != (num >= size) || num < size && (why == api.ErrLong) != (len(data) > api.BlockSize) {
					t.Errorf("Spoil: error %d", why)
				}
			}
		}
	}
}
