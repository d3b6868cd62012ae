package system_test

import (
	"math"
	"slices"
	"strings"
	"testing"

	"cambium/api"
	"cambium/delta"
	"cambium/files"
	"cambium/item"
	"cambium/mount"
	"cambium/stream"
	"cambium/system"
	"cambium/vol"
)

// volumes are those that a system lists.
func volumes(t *testing.T, s api.Store) []api.Volume {
	t.Helper()
	a := asked(s, api.Call{Kind: api.CallList})
	if a.why != api.OK || !like(a.store, s) {
		t.Fatalf("CallList: error %d", a.why)
	}
	return a.heard.Volumes
}

func volumeOf(t *testing.T, s api.Store, name string) api.Volume {
	t.Helper()
	vols := volumes(t, s)
	at := slices.IndexFunc(vols, func(v api.Volume) bool { return v.Name == name })
	if at < 0 {
		t.Fatalf("there is no volume %s: %v", name, vols)
	}
	return vols[at]
}

// 19.2: of no kind nothing is done.
func TestNoKind(t *testing.T) {
	s := sample(t)
	for _, kind := range []api.CallKind{api.CallNone, api.CallCount, api.CallCount + 1, math.MaxUint8} {
		asked(s, api.Call{Kind: kind, Name: "main", From: "s"}).wantRefused(t, "no kind", s, api.ErrForm)
	}
}

// 19.2: a CallVol is vol.Do of the system's generation, and nothing is heard of it.
func TestCallVol(t *testing.T) {
	s := sample(t)
	for what, x := range map[string]struct {
		call api.Call
		want api.Errno
	}{
		"make":                      {volCall(api.VolOpMake, "new", "s"), api.OK},
		"snap":                      {volCall(api.VolOpSnap, "new", "work"), api.OK},
		"clone":                     {volCall(api.VolOpClone, "new", "s"), api.OK},
		"roll":                      {volCall(api.VolOpRoll, "main", "s"), api.OK},
		"roll to what it has":       {volCall(api.VolOpRoll, "main", "main"), api.OK},
		"delete":                    {volCall(api.VolOpDelete, "main", ""), api.OK},
		"delete a snapshot":         {volCall(api.VolOpDelete, "s", ""), api.OK},
		"no kind":                   {volCall(api.VolOpNone, "new", "s"), api.ErrForm},
		"beyond the kinds":          {volCall(api.VolOpCount, "new", "s"), api.ErrForm},
		"a name that is none":       {volCall(api.VolOpMake, "a/b", ""), api.ErrName},
		"a long name":               {volCall(api.VolOpSnap, letters(17), "s"), api.ErrLong},
		"a name that is there":      {volCall(api.VolOpClone, "main", "s"), api.ErrTwice},
		"of none":                   {volCall(api.VolOpSnap, "new", "none"), api.ErrNone},
		"a snapshot is rolled":      {volCall(api.VolOpRoll, "s", "main"), api.ErrSnap},
		"none is deleted":           {volCall(api.VolOpDelete, "none", ""), api.ErrNone},
		"the name of another field": {api.Call{Kind: api.CallVol, Name: "main", From: "s"}, api.ErrForm},
	} {
		a := asked(s, x.call)
		a.want(t, what, worded(s, x.call))
		if a.why != x.want || system.Check(a.store) != api.OK {
			t.Errorf("%s: error %d, then %d", what, a.why, system.Check(a.store))
		}
	}
	full := after(t, s, volCall(api.VolOpMake, "d", ""), volCall(api.VolOpMake, "e", ""), volCall(api.VolOpMake, "f", ""))
	asked(full, volCall(api.VolOpMake, "g", "")).wantRefused(t, "a seventh one", full, api.ErrRange)
}

// 19, Words: the generation is the greatest one of a Valid slot, whichever that is.
func TestGeneration(t *testing.T) {
	s := fresh(t, 32)
	for gen := uint64(1); gen < 5; gen++ {
		made := after(t, s, volCall(api.VolOpMake, "m", ""), volCall(api.VolOpSnap, "n", "m"), volCall(api.VolOpClone, "o", "n"))
		for _, v := range volumes(t, made) {
			if v.Born != gen {
				t.Errorf("at generation %d: %s is born %d", gen, v.Name, v.Born)
			}
		}
		carried := asked(made, api.Call{Kind: api.CallSend, Name: "m"}).heard.Text
		if taken := after(t, made, takeCall("p", "", carried)); volumeOf(t, taken, "p").Born != gen {
			t.Errorf("at generation %d: what is taken is born %d", gen, volumeOf(t, taken, "p").Born)
		}
		s = after(t, s, syncCall)
	}
	s.Slots[0].Gen = api.MaxGen
	if made := after(t, s, volCall(api.VolOpMake, "m", "")); volumeOf(t, made, "m").Born != api.MaxGen {
		t.Errorf("at the last generation: born %d", volumeOf(t, made, "m").Born)
	}
}

// 19.2: what an Op tells is heard, what it changes the volume has; another volume has what it had.
func TestCallFile(t *testing.T) {
	s := sample(t)
	for what, c := range map[string]api.Call{
		"read":          opCall("main", api.Op{Kind: api.OpRead, Path: "/l/f", N: 9}),
		"read s":        opCall("s", api.Op{Kind: api.OpRead, Path: "/a/f", Off: 290, N: 99}),
		"stat":          fileCall("main", api.OpStat, "/a/f"),
		"stat s":        fileCall("s", api.OpStat, "/"),
		"list":          fileCall("main", api.OpList, "/"),
		"list s":        fileCall("s", api.OpList, "/a"),
		"an attribute":  opCall("main", api.Op{Kind: api.OpGetAttr, Path: "/a", To: "k"}),
		"make":          fileCall("main", api.OpMake, "/new"),
		"write":         opCall("work", api.Op{Kind: api.OpWrite, Path: "/a", Data: "x"}),
		"rename":        opCall("main", api.Op{Kind: api.OpRename, Path: "/a", To: "/b"}),
		"much":          opCall("main", api.Op{Kind: api.OpWrite, Path: "/a/f", Off: 500, Data: letters(2000)}),
		"a long path":   fileCall("main", api.OpStat, "/"+letters(256)),
		"another name":  fileCall("s", api.OpStat, "a"),
		"no such path":  fileCall("s", api.OpRead, "/l"),
		"no attribute":  opCall("s", api.Op{Kind: api.OpGetAttr, Path: "/a", To: "k"}),
		"a directory":   fileCall("main", api.OpUnlink, "/a"),
		"below itself":  opCall("main", api.Op{Kind: api.OpRename, Path: "/a", To: "/a/b"}),
		"no kind":       fileCall("main", api.OpNone, "/a"),
		"beyond a kind": fileCall("main", api.OpCount, "/a"),
	} {
		a := asked(s, c)
		a.want(t, what, worded(s, c))
		before := itemsOf(t, s, c.Name)
		changes, told, why := files.Do(before, c.Op)
		now, _ := item.Apply(before, changes)
		if a.why != why || !likeHeard(a.heard, api.Heard{Told: told}) || !slices.Equal(itemsOf(t, a.store, c.Name), now) {
			t.Errorf("%s: heard %.200v, error %d, not %.200v, %d", what, a.heard, a.why, told, why)
		}
		for _, v := range volumes(t, s) {
			if v.Name != c.Name && volumeOf(t, a.store, v.Name) != v {
				t.Errorf("%s: %v is %v then", what, v, volumeOf(t, a.store, v.Name))
			}
		}
	}
	if a := asked(s, opCall("main", api.Op{Kind: api.OpRead, Path: "/a/f", N: 9})); a.heard.Told.Text != "kotherkkk" || a.why != api.OK {
		t.Errorf("read: %q, error %d", a.heard.Told.Text, a.why)
	}
	if a := asked(s, opCall("s", api.Op{Kind: api.OpRead, Path: "/a/f", N: 9})); a.heard.Told.Text != letters(9) || a.why != api.OK {
		t.Errorf("read s: %q, error %d", a.heard.Told.Text, a.why)
	}
}

// 19.2: which error is told ahead of which: no volume, a snapshot, the Op's.
func TestCallFileErrors(t *testing.T) {
	s := sample(t)
	tells := []api.OpKind{api.OpRead, api.OpStat, api.OpList, api.OpGetAttr}
	for kind := range api.OpCount + 3 {
		for _, path := range []string{"/a", "/", "", "/none", "/" + letters(25), letters(1000)} {
			op := api.Op{Kind: kind, Path: path, To: "k", Off: math.MaxUint32, Data: letters(api.MaxAttr + 1)}
			for _, name := range []string{"", "none", "S", letters(1000)} {
				asked(s, opCall(name, op)).wantRefused(t, "no volume", s, api.ErrNone)
			}
			if !slices.Contains(tells, kind) {
				asked(s, opCall("s", op)).wantRefused(t, "a snapshot", s, api.ErrSnap)
			}
			if _, _, why := files.Do(itemsOf(t, s, "main"), op); why != api.OK {
				asked(s, opCall("main", op)).wantRefused(t, "the Op's", s, why)
			}
		}
	}
}

// filled is the sample, to whose branch work was written as long as there was room.
func filled(t *testing.T) api.Store {
	t.Helper()
	s := after(t, sample(t), fileCall("work", api.OpMake, "/big"))
	for off := uint32(0); ; off += 400 {
		a := asked(s, opCall("work", api.Op{Kind: api.OpWrite, Path: "/big", Off: off, Data: letters(400)}))
		if a.why == api.ErrFull {
			a.wantRefused(t, "a write", s, api.ErrFull)
			return s
		}
		s = after(t, a.store)
	}
}

// 19.2: what changes nothing needs no room, and what is only told needs none; what needs some is refused, and nothing is otherwise.
func TestNoRoom(t *testing.T) {
	s := filled(t)
	for what, c := range map[string]api.Call{
		"mode":  fileCall("main", api.OpMode, "/a"),
		"write": opCall("main", api.Op{Kind: api.OpWrite, Path: "/a/f", Data: "kother"}),
		"roll":  volCall(api.VolOpRoll, "main", "main"),
	} {
		asked(s, c).want(t, what, answer{store: s})
	}
	// A list of other names, and of other things, is another tree.
	carried, why := stream.Send(nil, itemsOf(t, after(t, fresh(t, 256), volCall(api.VolOpMake, "m", ""),
		fileCall("m", api.OpMake, "/x"), opCall("m", api.Op{Kind: api.OpWrite, Path: "/x", Data: strings.Repeat("x", 5000)})), "m"))
	if why != api.OK {
		t.Fatalf("Send: error %d", why)
	}
	for what, c := range map[string]api.Call{
		"write": opCall("main", api.Op{Kind: api.OpWrite, Path: "/a/f", Data: strings.Repeat("x", 5000)}),
		"take":  takeCall("taken", "", carried),
	} {
		asked(s, c).wantRefused(t, what, s, api.ErrFull)
	}
	for _, name := range []string{"main", "s", "work"} {
		want, _ := stream.Send(nil, itemsOf(t, s, name))
		asked(s, api.Call{Kind: api.CallSend, Name: name}).want(t, "send", answer{store: s, heard: api.Heard{Text: want}})
	}
}

// 19.2: a CallSync is mount.Commit, and nothing is heard of it, wherever the power goes.
func TestCallSync(t *testing.T) {
	s := sample(t)
	for fuse := -1; fuse < 20; fuse++ {
		s.Dev.Fuse = fuse
		want, why := mount.Commit(s)
		asked(s, syncCall).want(t, "sync", answer{store: want, why: why})
		if why != api.OK && !like(want, bare(want.Dev)) {
			t.Errorf("at %d: Commit tells %v", fuse, want)
		}
	}
	s.Dev.Down = true
	asked(s, syncCall).want(t, "sync of what is down", answer{store: bare(s.Dev), why: api.ErrDown})
	full := sample(t)
	full.Dev.Waits = make([]api.Block, api.MaxWaits)
	asked(full, syncCall).want(t, "sync where too much waits", answer{store: bare(full.Dev), why: api.ErrFull})
	last := sample(t)
	last.Slots[0].Gen = api.MaxGen
	asked(last, syncCall).wantRefused(t, "sync of the last generation", last, api.ErrRange)
	last.Dev.Down = true
	asked(last, syncCall).wantRefused(t, "sync of the last generation, and it is down", last, api.ErrRange)
}

// 19.2: a device that is down is no matter to what needs none.
func TestDown(t *testing.T) {
	s := sample(t)
	down := copied(s)
	down.Dev.Down = true
	for _, c := range []api.Call{
		volCall(api.VolOpMake, "new", ""), fileCall("main", api.OpMkdir, "/new"), fileCall("s", api.OpList, "/"),
		{Kind: api.CallList}, {Kind: api.CallLog, Name: "s"}, {Kind: api.CallPaths, Name: "main", From: "s"}, {Kind: api.CallSend, Name: "main"},
		takeCall("new", "", asked(s, api.Call{Kind: api.CallSend, Name: "main"}).heard.Text),
	} {
		want := asked(s, c)
		want.store.Dev.Down = true
		asked(down, c).want(t, "it is down", want)
		if want.why != api.OK {
			t.Errorf("kind %d: error %d", c.Kind, want.why)
		}
	}
	asked(down, api.Call{Kind: api.CallScrub}).wantRefused(t, "a scrub of what is down", down, api.ErrDown)
}

// 19.2: volumes, rising by name, and what each was made of.
func TestCallListAndLog(t *testing.T) {
	s := sample(t)
	vols, _ := vol.List(s.Heap, s.Table)
	asked(s, api.Call{Kind: api.CallList, Name: "none"}).want(t, "list", answer{store: s, heard: api.Heard{Volumes: vols}})
	if len(vols) != 3 || vols[0].Name != "main" || vols[1].Name != "s" || vols[2].Name != "work" {
		t.Errorf("list: %v", vols)
	}
	for name, want := range map[string][]string{"main": {"main"}, "s": {"s", "main"}, "work": {"work", "s", "main"}} {
		asked(s, api.Call{Kind: api.CallLog, Name: name, From: "none"}).want(t, "log", answer{store: s, heard: api.Heard{Names: want}})
	}
	for _, name := range []string{"", "none", letters(1000)} {
		asked(s, api.Call{Kind: api.CallLog, Name: name, From: "s"}).wantRefused(t, "log", s, api.ErrNone)
	}
}

// 19.2: how what Name has is apart from what From has.
func TestCallPaths(t *testing.T) {
	s := sample(t)
	paths := func(from, name string) answer {
		return asked(s, api.Call{Kind: api.CallPaths, Name: name, From: from})
	}
	paths("s", "main").want(t, "main from s", answer{store: s, heard: api.Heard{Deltas: []api.Delta{
		{Path: "/a", Kind: api.DeltaOther}, {Path: "/a/f", Kind: api.DeltaOther}, {Path: "/l", Kind: api.DeltaNew}}}})
	paths("main", "work").want(t, "work from main", answer{store: s, heard: api.Heard{Deltas: []api.Delta{
		{Path: "/a", Kind: api.DeltaOther}, {Path: "/a/f", Kind: api.DeltaGone}, {Path: "/l", Kind: api.DeltaGone}}}})
	for _, from := range []string{"main", "s", "work"} {
		for _, name := range []string{"main", "s", "work"} {
			want, _ := delta.Paths(itemsOf(t, s, from), itemsOf(t, s, name))
			paths(from, name).want(t, name+" from "+from, answer{store: s, heard: api.Heard{Deltas: want}})
		}
		for _, none := range []string{"", "none", letters(1000)} {
			paths(from, none).wantRefused(t, "no Name", s, api.ErrNone)
			paths(none, from).wantRefused(t, "no From", s, api.ErrNone)
			paths(none, none).wantRefused(t, "neither", s, api.ErrNone)
		}
	}
}

// 19.2: a volume as a stream, to be received on another one, or on nothing.
func TestCallSend(t *testing.T) {
	s := sample(t)
	send := func(from, name string) answer {
		return asked(s, api.Call{Kind: api.CallSend, Name: name, From: from})
	}
	for _, from := range []string{"", "main", "s", "work"} {
		var base []api.Item
		if from != "" {
			base = itemsOf(t, s, from)
		}
		for _, name := range []string{"main", "s", "work"} {
			want, why := stream.Send(base, itemsOf(t, s, name))
			send(from, name).want(t, name+" on "+from, answer{store: s, heard: api.Heard{Text: want}})
			if why != api.OK || want == "" {
				t.Errorf("Send: error %d", why)
			}
		}
		for _, none := range []string{"", "none", letters(1000)} {
			send(from, none).wantRefused(t, "no Name", s, api.ErrNone)
		}
		for _, none := range []string{"none", letters(1000), "\x00"} {
			send(none, from).wantRefused(t, "no From", s, api.ErrNone)
		}
	}
}

// 19.2: a stream is taken as a snapshot, made of what it is received on.
func TestCallTake(t *testing.T) {
	s := sample(t)
	for _, from := range []string{"", "main", "s", "work"} {
		for _, name := range []string{"main", "s", "work"} {
			c := takeCall("taken", from, asked(s, api.Call{Kind: api.CallSend, Name: name, From: from}).heard.Text)
			a := asked(s, c)
			a.want(t, name+" on "+from, worded(s, c))
			v, want := volumeOf(t, a.store, "taken"), volumeOf(t, s, name)
			want.Name, want.Kind, want.From, want.Born = "taken", api.VolSnap, from, 4
			if v != want || !slices.Equal(itemsOf(t, a.store, "taken"), itemsOf(t, s, name)) {
				t.Errorf("%s on %q: %v, not %v", name, from, v, want)
			}
		}
	}
}

// 19.2: which error is told ahead of which: what From has, the stream's, the name's.
func TestCallTakeErrors(t *testing.T) {
	s := sample(t)
	text := asked(s, api.Call{Kind: api.CallSend, Name: "main", From: "s"}).heard.Text
	names := map[string]api.Errno{"": api.ErrName, "a/b": api.ErrName, ".": api.ErrName, letters(25): api.ErrName, letters(17): api.ErrLong, letters(24): api.ErrLong, "main": api.ErrTwice, "s": api.ErrTwice}
	for name, why := range names {
		asked(s, takeCall(name, "s", text)).wantRefused(t, "a name", s, why)
		for _, wrong := range []string{"", text[1:], text + "x", text[:len(text)-1], letters(42)} {
			asked(s, takeCall(name, "s", wrong)).wantRefused(t, "no stream", s, api.ErrStream)
			asked(s, takeCall(name, "", wrong)).wantRefused(t, "no stream on nothing", s, api.ErrStream)
			for _, from := range []string{"none", letters(17), "\x00"} {
				asked(s, takeCall(name, from, wrong)).wantRefused(t, "on no volume", s, api.ErrNone)
				asked(s, takeCall(name, from, text)).wantRefused(t, "on no volume", s, api.ErrNone)
			}
		}
		for _, from := range []string{"", "main", "work"} {
			asked(s, takeCall(name, from, text)).wantRefused(t, "on something else", s, api.ErrStream)
		}
	}
	full := after(t, s, volCall(api.VolOpMake, "d", ""), volCall(api.VolOpMake, "e", ""), takeCall("f", "s", text))
	asked(full, takeCall("g", "s", text)).wantRefused(t, "a seventh one", full, api.ErrRange)
	asked(full, takeCall("f", "s", text)).wantRefused(t, "one that is there", full, api.ErrTwice)
}
