package system_test

import (
	"slices"
	"testing"

	"cambium/api"
	"cambium/dev"
	"cambium/grow"
	"cambium/heap"
	"cambium/system"
)

// openedOn is what a device is taken into use as behind a crash that keeps nothing of what waits.
func openedOn(d api.Dev) (api.Store, api.Errno) {
	d, why := dev.Crash(d, nil)
	if why != api.OK {
		return api.Store{}, why
	}
	return system.Open(d)
}

// need is how many blocks a call that made the model so needs at most: a table, and a tree, if there may be another one.
func (m model) need(c api.Call) int {
	switch {
	case c.Kind == api.CallVol && c.Vol.Kind == api.VolOpMake:
		return 2
	case c.Kind == api.CallVol:
		return 1
	}
	n, _ := grow.Need(m.vols[c.Name].items)
	return n + 1
}

// wantLike asks for a system to have the model's volumes.
func (m model) wantLike(t *testing.T, s api.Store) {
	t.Helper()
	if system.Check(s) != api.OK {
		t.Fatalf("Check: error %d", system.Check(s))
	}
	if vols := treeless(volumes(t, s)); !slices.Equal(vols, m.list()) {
		t.Fatalf("volumes %v, not %v", vols, m.list())
	}
	for name, v := range m.vols {
		if l := itemsOf(t, s, name); !slices.Equal(l, v.items) {
			t.Fatalf("Items of %s: %v, not %v", name, l, v.items)
		}
	}
}

// treeless are volumes of which nothing is told that a plain list has not.
func treeless(vols []api.Volume) []api.Volume {
	out := slices.Clone(vols)
	for i := range out {
		out[i].Root, out[i].Hash = 0, [32]byte{}
	}
	return out
}

// 19.2, 19.4, 19.5: whatever is asked, one call behind the other, is answered as plain lists do, but that there may be no room; the system stays right, and is as the words say it call by call.
func TestAsPlainLists(t *testing.T) {
	answers := map[api.Errno]int{}
	for _, size := range []uint32{api.MinBlocks, 28, 60} {
		x := maker{choices: choices(size)}
		s, m := fresh(t, size), model{map[string]plain{}, 1}
		for range 500 {
			c, was := x.call(), copied(s)
			free, _ := heap.Free(s.Heap)
			a, before := asked(s, c), m.copied()
			heard, why := m.do(c)
			if a.why == api.ErrFull && why == api.OK && free < m.need(c) {
				heard, why = api.Heard{}, api.ErrFull
			}
			if !like(s, was) {
				t.Fatalf("call %v: what was handed in is otherwise", c)
			}
			a.want(t, "by the words", worded(s, c))
			a.heard.Volumes = treeless(a.heard.Volumes)
			if a.why != why || !likeHeard(a.heard, heard) {
				t.Fatalf("call %.300v: heard %.300v, error %d, not %.300v, %d", c, a.heard, a.why, heard, why)
			}
			if why != api.OK {
				m = before
				a.wantRefused(t, "a call", s, why)
			}
			if c.Kind == api.CallSend && why == api.OK {
				x.streams = append(x.streams, heard.Text)
			}
			answers[why]++
			s = a.store
			m.wantLike(t, s)
		}
	}
	for _, why := range []api.Errno{api.OK, api.ErrForm, api.ErrNone, api.ErrTwice, api.ErrFull, api.ErrSnap, api.ErrName, api.ErrRange, api.ErrStream, api.ErrFile, api.ErrDir} {
		if answers[why] < 2 {
			t.Errorf("error %d was answered %d times alone: %v", why, answers[why], answers)
		}
	}
}

// 19.4, P7, and the example: a snapshot has what it had when it was made, till it is deleted; what only deleted ones had is free when it was synced twice.
func TestSnapshots(t *testing.T) {
	s := after(t, fresh(t, 64), volCall(api.VolOpMake, "main", ""))
	start, _ := heap.Free(after(t, s, syncCall, syncCall).Heap)
	s = after(t, s, fileCall("main", api.OpMkdir, "/a"), volCall(api.VolOpSnap, "s", "main"))
	had := itemsOf(t, s, "s")
	for i, c := range []api.Call{
		fileCall("main", api.OpRmdir, "/a"), fileCall("main", api.OpMake, "/big"),
		opCall("main", api.Op{Kind: api.OpWrite, Path: "/big", Data: letters(2000)}),
		volCall(api.VolOpSnap, "t", "main"), syncCall, volCall(api.VolOpClone, "c", "s"), fileCall("c", api.OpMode, "/"),
		fileCall("c", api.OpMkdir, "/a/b"), volCall(api.VolOpRoll, "main", "c"), syncCall, volCall(api.VolOpDelete, "main", ""), volCall(api.VolOpDelete, "c", ""), syncCall,
		volCall(api.VolOpMake, "main", ""),
	} {
		s = after(t, s, c)
		if !slices.Equal(itemsOf(t, s, "s"), had) {
			t.Errorf("%d: s has %v, not %v", i, itemsOf(t, s, "s"), had)
		}
	}
	if a := asked(s, fileCall("s", api.OpStat, "/a")); a.heard.Told.Inode.Kind != api.FileDir || a.why != api.OK {
		t.Errorf("/a of s: %v, error %d", a.heard.Told, a.why)
	}
	s = after(t, s, syncCall, volCall(api.VolOpDelete, "s", ""), volCall(api.VolOpDelete, "t", ""), syncCall)
	if free, _ := heap.Free(s.Heap); free >= start {
		t.Errorf("synced once: %d are free, of %d", free, start)
	}
	s = after(t, s, syncCall)
	if free, _ := heap.Free(s.Heap); free != start {
		t.Errorf("synced twice: %d are free, not %d", free, start)
	}
}

// 19.6: what is sent of one system is, on another one that has what it is to be received on, what it was.
func TestReceived(t *testing.T) {
	x := maker{choices: 7}
	from := after(t, fresh(t, 256), volCall(api.VolOpMake, "main", ""))
	to := after(t, fresh(t, 128), volCall(api.VolOpMake, "own", ""), fileCall("own", api.OpMkdir, "/own"), syncCall)
	base := ""
	for i := range 12 {
		for changed := 0; changed < 3; {
			if a := asked(from, opCall("main", x.op())); a.why == api.OK && !like(a.store, from) {
				from = a.store
				changed++
			}
		}
		name := "s" + string(rune('a'+i))
		from = after(t, from, volCall(api.VolOpSnap, name, "main"))
		sent := asked(from, api.Call{Kind: api.CallSend, Name: name, From: base})
		to = after(t, to, takeCall(name, base, sent.heard.Text))
		if !slices.Equal(itemsOf(t, to, name), itemsOf(t, from, name)) {
			t.Fatalf("%s: %v, not %v", name, itemsOf(t, to, name), itemsOf(t, from, name))
		}
		asked(to, takeCall("other", "own", sent.heard.Text)).wantRefused(t, "on something else", to, api.ErrStream)
		if base != "" {
			from, to = after(t, from, volCall(api.VolOpDelete, base, "")), after(t, to, volCall(api.VolOpDelete, base, ""))
		}
		base = name
	}
	if n := len(itemsOf(t, to, base)); n < 8 {
		t.Errorf("there are %d items alone", n)
	}
}

// P8: a stream of which any bit is turned is taken by no system.
func TestTurnedStreams(t *testing.T) {
	s := sample(t)
	text := asked(s, api.Call{Kind: api.CallSend, Name: "work", From: "s"}).heard.Text
	for i := range 8 * len(text) {
		b := []byte(text)
		b[i/8] ^= 1 << (i % 8)
		if _, _, why := system.Do(s, takeCall("taken", "s", string(b))); why != api.ErrStream {
			t.Errorf("bit %d: error %d", i, why)
		}
	}
}

// roomy is a store whose lists have room behind them.
func roomy(s api.Store) api.Store {
	s = copied(s)
	s.Dev.Blocks, s.Dev.Waits = slices.Grow(s.Dev.Blocks, 8), slices.Grow(s.Dev.Waits, 8)
	s.Heap.Cells = slices.Grow(s.Heap.Cells, 8)
	return s
}

// overwrite changes everything in a store's lists, and in the room behind them.
func overwrite(s api.Store) {
	for _, l := range [][]api.Block{s.Dev.Blocks, s.Dev.Waits} {
		l = l[:cap(l)]
		for i := range l {
			l[i] = api.Block{Num: 77, Data: "overwritten"}
		}
	}
	cells := s.Heap.Cells[:cap(s.Heap.Cells)]
	for i := range cells {
		cells[i] = api.Cell{Num: 77, Data: "overwritten"}
	}
}

// behind is what stands in the room behind a store's lists.
func behind(s api.Store) api.Store {
	s.Dev.Blocks = s.Dev.Blocks[len(s.Dev.Blocks):cap(s.Dev.Blocks)]
	s.Dev.Waits = s.Dev.Waits[len(s.Dev.Waits):cap(s.Dev.Waits)]
	s.Heap.Cells = s.Heap.Cells[len(s.Heap.Cells):cap(s.Heap.Cells)]
	return s
}

// overwriteHeard changes everything in the lists of what is heard, and in the room behind them.
func overwriteHeard(h api.Heard) {
	fill(h.Told.Entries, api.Entry{Name: "overwritten"})
	fill(h.Names, "overwritten")
	fill(h.Volumes, api.Volume{Name: "overwritten"})
	fill(h.Deltas, api.Delta{Path: "overwritten"})
	fill(h.Blocks, 77)
}

func fill[T any](l []T, x T) {
	l = l[:cap(l)]
	for i := range l {
		l[i] = x
	}
}

func copiedHeard(h api.Heard) api.Heard {
	h.Told.Entries, h.Names, h.Volumes = slices.Clone(h.Told.Entries), slices.Clone(h.Names), slices.Clone(h.Volumes)
	h.Deltas, h.Blocks = slices.Clone(h.Deltas), slices.Clone(h.Blocks)
	return h
}

// 19.3: what is handed in is neither changed nor kept, and what is answered shares nothing with it, nor with an earlier answer.
func TestNewMemory(t *testing.T) {
	start := sample(t)
	start.Dev.Waits = []api.Block{{Num: 63, Data: "waits"}}
	start = spoilt(t, start, start.Slots[1].Table, "spoilt")
	down, full := copied(start), copied(start)
	down.Dev.Down, full.Dev.Waits = true, make([]api.Block, api.MaxWaits)
	do := func(c api.Call) func(s api.Store) answer { return func(s api.Store) answer { return asked(s, c) } }
	asks := map[string]func(s api.Store) answer{
		"open": func(s api.Store) answer { s, why := system.Open(s.Dev); return answer{store: s, why: why} },
		"new":  func(s api.Store) answer { s, why := system.New(s.Dev); return answer{store: s, why: why} },
		"open of a blank device": func(s api.Store) answer {
			s, why := system.Open(api.Dev{Size: 16, Waits: s.Dev.Waits})
			return answer{store: s, why: why}
		},
		"list":            do(api.Call{Kind: api.CallList}),
		"log":             do(api.Call{Kind: api.CallLog, Name: "work"}),
		"paths":           do(api.Call{Kind: api.CallPaths, Name: "work", From: "main"}),
		"send":            do(api.Call{Kind: api.CallSend, Name: "work", From: "main"}),
		"scrub":           do(scrubCall),
		"a directory":     do(fileCall("main", api.OpList, "/")),
		"nothing changes": do(fileCall("main", api.OpMode, "/")),
		"make":            do(fileCall("main", api.OpMake, "/new")),
		"a volume":        do(volCall(api.VolOpMake, "new", "")),
		"take":            do(takeCall("new", "", asked(start, api.Call{Kind: api.CallSend, Name: "s"}).heard.Text)),
		"sync":            do(syncCall),
		"refused":         do(fileCall("s", api.OpMake, "/new")),
		"no kind":         do(api.Call{}),
	}
	for what, ask := range asks {
		for _, state := range []api.Store{start, down, full} {
			s := roomy(state)
			a := ask(s)
			if !like(s, state) || behind(s).Dev.Blocks[0] != (api.Block{}) || behind(s).Heap.Cells[0] != (api.Cell{}) {
				t.Errorf("%s: what was handed in is otherwise", what)
			}
			want := answer{copied(a.store), copiedHeard(a.heard), a.why}
			overwrite(s)
			a.want(t, what+", the argument overwritten", want)
			again := ask(roomy(state))
			overwrite(a.store)
			overwriteHeard(a.heard)
			again.want(t, what+", an earlier answer overwritten", want)
		}
	}
	l := itemsOf(t, start, "main")
	want := slices.Clone(l)
	fill(l, api.Item{Key: "overwritten"})
	if again := itemsOf(t, start, "main"); !slices.Equal(again, want) {
		t.Error("Items shares memory")
	}
}

// P3: what is answered hangs on what is handed in alone, and not on what was asked ahead.
func TestAskedAgain(t *testing.T) {
	s := sample(t)
	var first []answer
	for _, c := range allCalls() {
		first = append(first, asked(s, c))
	}
	for i, c := range allCalls() {
		asked(s, c).want(t, "asked again", first[i])
	}
}
