package world_test

import (
	"slices"
	"testing"

	"cambium/api"
	"cambium/dirs"
	"cambium/heap"
)

// The example of the chapter, and the tenth of the whole.
func TestCrashBehindNoSync(t *testing.T) {
	w := after(t, fresh(t, 16), volStep(api.VolOpMake, "main", ""), syncStep, fileStep("main", api.Op{Kind: api.OpMkdir, Path: "/a"}))
	if a := done(w, fileStep("main", api.Op{Kind: api.OpStat, Path: "/a"})); a.heard.Told.Inode.Kind != api.FileDir || a.why != api.OK {
		t.Errorf("ahead of the crash: %v, error %d", a.heard.Told, a.why)
	}
	w = after(t, w, crashStep(), mountStep)
	if s := stateOf(t, w); len(s.vols) != 1 || !slices.Equal(s.items["main"], dirs.New()) {
		t.Errorf("main has %v", s.items)
	}
}

// The fifth example of the whole: with the newest superblock spoilt the one before it is mounted.
func TestNewestSpoilt(t *testing.T) {
	w := after(t, fresh(t, 16), volStep(api.VolOpMake, "main", ""), syncStep)
	elder := stateOf(t, w)
	w = after(t, w, fileStep("main", api.Op{Kind: api.OpMkdir, Path: "/a"}), syncStep)
	newer := stateOf(t, w)
	for num, want := range map[uint32]state{0: newer, 1: elder, w.Store.Slots[1].Table: elder, w.Store.Slots[0].Table: newer} {
		m := after(t, w, spoilStep(num, "spoilt"), crashStep(), mountStep)
		if now := stateOf(t, m); !now.is(want) {
			t.Errorf("block %d spoilt: it has %v, not %v", num, now.vols, want.vols)
		}
	}
	both := after(t, w, spoilStep(0, "spoilt"), spoilStep(1, "spoilt"), crashStep())
	done(both, mountStep).wantRefused(t, "both superblocks are spoilt", both, api.ErrBad)
}

// The eighth and the ninth example of the whole: a snapshot has what was there, and what was written is the only path that is apart.
func TestSnapshotAheadOfAWrite(t *testing.T) {
	w := after(t, fresh(t, 32), volStep(api.VolOpMake, "main", ""), fileStep("main", api.Op{Kind: api.OpMake, Path: "/f"}), fileStep("main", api.Op{Kind: api.OpMake, Path: "/g"}),
		fileStep("main", api.Op{Kind: api.OpWrite, Path: "/f", Data: "then"}), volStep(api.VolOpSnap, "s", "main"),
		fileStep("main", api.Op{Kind: api.OpWrite, Path: "/f", Data: "now"}), syncStep, crashStep(), mountStep)
	for name, want := range map[string]string{"s": "then", "main": "nown"} {
		if a := done(w, fileStep(name, api.Op{Kind: api.OpRead, Path: "/f", N: 9})); a.heard.Told.Text != want || a.why != api.OK {
			t.Errorf("/f of %s: %q, error %d", name, a.heard.Told.Text, a.why)
		}
	}
	a := done(w, called(api.Call{Kind: api.CallPaths, Name: "main", From: "s"}))
	a.want(t, "paths", answer{world: w, heard: api.Heard{Deltas: []api.Delta{{Path: "/f", Kind: api.DeltaOther}}}})
}

// P7: what only deleted volumes had is free when it was synced twice, and the power went in between.
func TestFreeAgain(t *testing.T) {
	w := after(t, fresh(t, 64), syncStep, syncStep)
	start, _ := heap.Free(w.Store.Heap)
	w = after(t, w, volStep(api.VolOpMake, "main", ""), fileStep("main", api.Op{Kind: api.OpMake, Path: "/f"}), fileStep("main", api.Op{Kind: api.OpWrite, Path: "/f", Data: letters(3000)}),
		volStep(api.VolOpSnap, "s", "main"), syncStep, fileStep("main", api.Op{Kind: api.OpCut, Path: "/f", N: 100}), syncStep, crashStep(), mountStep,
		volStep(api.VolOpDelete, "main", ""), syncStep, crashStep(), mountStep, volStep(api.VolOpDelete, "s", ""), syncStep)
	if free, _ := heap.Free(w.Store.Heap); free >= start {
		t.Errorf("synced once: %d are free, of %d", free, start)
	}
	w = after(t, w, syncStep)
	if free, _ := heap.Free(w.Store.Heap); free != start || len(w.Store.Heap.Cells) != 1 {
		t.Errorf("synced twice: %d are free, not %d", free, start)
	}
}

// P8: a volume is carried from one world into another one, step by step, and both may crash in between.
func TestCarried(t *testing.T) {
	from, to := after(t, fresh(t, 64), volStep(api.VolOpMake, "main", "")), fresh(t, 32)
	base := ""
	for i, text := range []string{"first", "second", "third"} {
		name := "s" + string(rune('0'+i))
		from = after(t, from, fileStep("main", api.Op{Kind: api.OpMake, Path: "/" + text}), fileStep("main", api.Op{Kind: api.OpWrite, Path: "/" + text, Data: text}),
			volStep(api.VolOpSnap, name, "main"), syncStep, crashStep(), mountStep)
		sent := done(from, called(api.Call{Kind: api.CallSend, Name: name, From: base}))
		to = after(t, to, called(api.Call{Kind: api.CallTake, Name: name, From: base, Text: sent.heard.Text}), syncStep, crashStep(), mountStep)
		a, b := stateOf(t, from), stateOf(t, to)
		if !slices.Equal(a.items[name], b.items[name]) || sent.why != api.OK {
			t.Errorf("%s: %v, not %v, error %d", name, b.items[name], a.items[name], sent.why)
		}
		base = name
	}
}
