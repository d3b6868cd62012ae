package world_test

import (
	"slices"
	"strings"
	"testing"

	"cambium/api"
	"cambium/system"
	"cambium/world"
)

// maker makes steps in a mixed order.
type maker struct {
	choices
}

func (x *maker) name() string {
	return one(&x.choices, []string{"a", "a", "a", "b", "b", "c", "d", "e"})
}

func (x *maker) path() string {
	return one(&x.choices, []string{"", "", "/d"}) + "/" + one(&x.choices, []string{"d", "e", "f", "g"})
}

// call is one that changes something, or is refused.
func (x *maker) call() api.WorldStep {
	name, from := x.name(), x.name()
	switch x.below(8) {
	case 0:
		return volStep(api.VolOpKind(x.below(int(api.VolOpCount))), name, from)
	case 1:
		return volStep(one(&x.choices, []api.VolOpKind{api.VolOpMake, api.VolOpSnap}), name, from)
	}
	op := api.Op{Kind: api.OpKind(x.below(int(api.OpCount))), Path: x.path(), To: x.path(), Off: uint32(x.below(300)), Mode: uint16(x.below(9))}
	if x.below(3) > 0 {
		op.Kind = one(&x.choices, []api.OpKind{api.OpMake, api.OpMkdir, api.OpWrite, api.OpWrite})
	}
	op.Data = strings.Repeat(string(rune('p'+x.below(5))), x.below(400))
	return fileStep(name, op)
}

// kept are choices of what is kept of n writes: all there are, if they are few, else some.
func (x *maker) kept(n int) [][]bool {
	var l [][]bool
	for bits := range 1 << min(n, 4) {
		keep := make([]bool, n)
		for i := range keep {
			keep[i] = bits>>i&1 == 1
			if n > 4 {
				keep[i] = x.below(3) > 0
			}
		}
		l = append(l, keep)
	}
	all := slices.Repeat([]bool{true}, n)
	return append(l, nil, all, all[:n/2])
}

// wantKept asks for each snapshot of a world to have behind a step what it had, if the step did not delete it.
func wantKept(t *testing.T, w api.World, s api.WorldStep, then api.World) {
	t.Helper()
	before, now := stateOf(t, w), stateOf(t, then)
	for _, v := range before.vols {
		op := s.Call.Vol
		deleted := s.Call.Kind == api.CallVol && op.Kind == api.VolOpDelete && op.Name == v.Name
		if v.Kind == api.VolSnap && !deleted && (!slices.Contains(now.vols, v) || !slices.Equal(now.items[v.Name], before.items[v.Name])) {
			t.Fatalf("the snapshot %v was %v, and is %v", v, before.items[v.Name], now.items[v.Name])
		}
	}
}

// busied is a world in which some calls were asked; its snapshots have what they had.
func (x *maker) busied(t *testing.T, w api.World) api.World {
	t.Helper()
	for range 1 + x.below(6) {
		s := x.call()
		a := done(w, s)
		if world.Check(a.world) != api.OK || a.why != api.OK && !like(a.world, w) {
			t.Fatalf("call %v: error %d, then %d", s.Call, a.why, world.Check(a.world))
		}
		wantKept(t, w, s, a.world)
		w = a.world
	}
	return w
}

// wantWhole has the power go at each thing that a world's sync does: mounted again it has what it had at the last sync, or what this one was to write. One that is mounted so is answered, and both of these states, if they were seen.
func (x *maker) wantWhole(t *testing.T, w api.World, last state) (api.World, []state) {
	t.Helper()
	next := stateOf(t, w)
	var some api.World
	var seen []state
	for fuse := 0; ; fuse++ {
		a := done(after(t, w, fuseStep(fuse)), syncStep)
		if a.why == api.OK {
			break
		}
		if a.why != api.ErrDown || a.world.Up {
			t.Fatalf("sync at %d: error %d, up: %v", fuse, a.why, a.world.Up)
		}
		for _, keep := range x.kept(len(a.world.Store.Dev.Waits)) {
			m := after(t, a.world, crashStep(keep...), mountStep)
			now := stateOf(t, m)
			if !now.isOne(last, next) {
				t.Fatalf("sync at %d, kept %v: mounted it has %v, neither %v nor %v", fuse, keep, now.vols, last.vols, next.vols)
			}
			if !now.isOne(seen...) {
				seen = append(seen, now)
			}
			if some.Store.Dev.Size == 0 || x.below(8) == 0 {
				some = m
			}
		}
	}
	return some, seen
}

// 20.2, 20.4, 20.5, P5 to P7: wherever the power goes in a sync, and whatever is kept, mounted again it has what it had at the last sync, or what that one was to write; without a sync what it had at the last one.
func TestWhole(t *testing.T) {
	both, gone, lasting := 0, 0, 0
	for _, size := range []uint32{api.MinBlocks, 32} {
		x := maker{choices(size)}
		w := after(t, fresh(t, size), syncStep)
		last := stateOf(t, w)
		for range 40 {
			w = x.busied(t, w)
			crashed, seen := x.wantWhole(t, w, last)
			if len(seen) == 2 {
				both++
			}
			switch x.below(4) {
			case 0:
				w = crashed
				gone++
			case 1:
				w = after(t, w, crashStep(true, true), mountStep)
				if now := stateOf(t, w); !now.is(last) {
					t.Fatalf("without a sync: %v, not %v", now.vols, last.vols)
				}
			default:
				w = after(t, w, syncStep)
				lasting++
				if m := after(t, w, crashStep(), mountStep); !stateOf(t, m).is(stateOf(t, w)) || !likeStore(m.Store, w.Store) {
					t.Fatalf("behind a sync: %v, not %v", m.Store, w.Store)
				}
			}
			last = stateOf(t, w)
		}
	}
	if both < 30 || gone < 10 || lasting < 30 {
		t.Errorf("both states were seen %d times; the power went %d times, %d times it did not", both, gone, lasting)
	}
}

// junk is what may be put in place of a block, and is none of ours.
func (x *maker) junk(was string) string {
	if b := []byte(was); len(b) > 0 && x.below(2) == 0 {
		b[x.below(len(b))] ^= 1 << x.below(8)
		return string(b)
	}
	return one(&x.choices, []string{"", "x", letters(api.BlockSize), was + "x", "\x00\x00CB"})
}

// spoil spoils some blocks, in use or not.
func (x *maker) spoil(t *testing.T, w api.World) api.World {
	t.Helper()
	for range 1 + x.below(2) {
		num, was := uint32(x.below(12)), ""
		for _, b := range w.Store.Dev.Blocks {
			if b.Num == num {
				was = b.Data
			}
		}
		if data := x.junk(was); len(data) <= api.BlockSize {
			w = after(t, w, spoilStep(num, data))
		}
	}
	return w
}

// history is what the superblock in each slot has, or may have.
type history [2][]state

// synced notes what the newest superblock of a world has.
func (h *history) synced(t *testing.T, w api.World) {
	t.Helper()
	slot := 0
	if w.Store.Slots[1].Gen > w.Store.Slots[0].Gen {
		slot = 1
	}
	h[slot] = []state{stateOf(t, w)}
}

// 20.6, 19.7, P9: if blocks are spoilt, it is mounted with what it had at one of the last syncs, or it is not; a scrub tells of spoilt blocks alone, and changes nothing.
func TestSpoilt(t *testing.T) {
	mounted, refused, elder, told := 0, 0, 0, 0
	for seed := range 30 {
		x := maker{choices(seed)}
		w := after(t, fresh(t, 24), syncStep)
		var h history
		h[0], h[1] = []state{stateOf(t, w)}, []state{stateOf(t, w)}
		for range 8 {
			w = x.busied(t, w)
			if x.below(3) > 0 {
				w = after(t, w, syncStep)
				h.synced(t, w)
			}
			clean := len(done(w, scrubStep).heard.Blocks) == 0
			w = x.spoil(t, w)
			scrub := done(w, scrubStep)
			scrub.want(t, "a scrub", answer{world: w, heard: api.Heard{Blocks: scrub.heard.Blocks}})
			if !clean || len(scrub.heard.Blocks) > 0 {
				told++
			}
			m := done(after(t, w, crashStep()), mountStep)
			if m.why != api.OK {
				m.want(t, "a mount", answer{world: after(t, w, crashStep()), why: api.ErrBad})
				if len(scrub.heard.Blocks) == 0 {
					t.Fatal("it is not mounted, and nothing is spoilt")
				}
				refused++
				break
			}
			mounted++
			now := stateOf(t, m.world)
			if !now.isOne(slices.Concat(h[0], h[1])...) {
				t.Fatalf("mounted it has %v, and had not at one of the last syncs", now.vols)
			}
			if m.world.Store.Valid != [2]bool{true, true} {
				elder++
			}
			if x.below(2) == 0 {
				w = m.world
			}
		}
	}
	if mounted < 50 || refused < 5 || elder < 10 || told < 30 {
		t.Errorf("it was mounted %d times, with one superblock %d times, %d times it was not; %d scrubs told something", mounted, elder, refused, told)
	}
}

// roomy is a world whose lists have room behind them.
func roomy(w api.World) api.World {
	w = copied(w)
	d := &w.Store.Dev
	d.Blocks, d.Waits = slices.Grow(d.Blocks, 8), slices.Grow(d.Waits, 8)
	w.Store.Heap.Cells = slices.Grow(w.Store.Heap.Cells, 8)
	return w
}

// fill changes everything in a list, and in the room behind it.
func fill[T any](l []T, x T) {
	l = l[:cap(l)]
	for i := range l {
		l[i] = x
	}
}

func overwrite(w api.World) {
	fill(w.Store.Dev.Blocks, api.Block{Num: 77, Data: "overwritten"})
	fill(w.Store.Dev.Waits, api.Block{Num: 77, Data: "overwritten"})
	fill(w.Store.Heap.Cells, api.Cell{Num: 77, Data: "overwritten"})
}

// nothingBehind tells if the room behind a world's lists is as roomy made it.
func nothingBehind(w api.World) bool {
	d := w.Store.Dev
	for _, b := range slices.Concat(d.Blocks[len(d.Blocks):cap(d.Blocks)], d.Waits[len(d.Waits):cap(d.Waits)]) {
		if b != (api.Block{}) {
			return false
		}
	}
	cells := w.Store.Heap.Cells
	return !slices.ContainsFunc(cells[len(cells):cap(cells)], func(c api.Cell) bool { return c != api.Cell{} })
}

// 20.3: what is handed in is neither changed nor kept, and what is answered shares nothing with it, nor with an earlier answer.
func TestNewMemory(t *testing.T) {
	up := with(sample(t), func(w *api.World) { w.Store.Dev.Waits = []api.Block{{Num: 20, Data: "x"}, {Num: 21, Data: "y"}} })
	burning := with(up, func(w *api.World) { w.Store.Dev.Fuse = 1 })
	crashed := after(t, up, crashStep())
	steps := append(allSteps(), volStep(api.VolOpMake, "new", ""), fileStep("main", api.Op{Kind: api.OpList, Path: "/"}), scrubStep, crashStep(true, true), mountStep)
	for _, state := range append(downWorlds(t), up, burning, crashed, api.World{Up: true}) {
		for i, s := range steps {
			w, keep := roomy(state), slices.Clone(s.Keep)
			s.Keep = keep
			a := done(w, s)
			if !like(w, state) || !nothingBehind(w) || !slices.Equal(keep, steps[i].Keep) {
				t.Errorf("step %d: what was handed in is otherwise", i)
			}
			want := answer{copied(a.world), a.heard, a.why}
			want.heard.Volumes, want.heard.Told.Entries = slices.Clone(a.heard.Volumes), slices.Clone(a.heard.Told.Entries)
			overwrite(w)
			a.want(t, "the argument is overwritten", want)
			again := done(roomy(state), s)
			overwrite(a.world)
			fill(a.heard.Volumes, api.Volume{Name: "overwritten"})
			fill(a.heard.Told.Entries, api.Entry{Name: "overwritten"})
			again.want(t, "an earlier answer is overwritten", want)
		}
	}
	first, _ := world.New(16)
	overwrite(first)
	if second, why := world.New(16); why != api.OK || system.Check(second.Store) != api.OK {
		t.Errorf("New shares memory: error %d", why)
	}
}
