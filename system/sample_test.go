package system_test

import (
	"fmt"
	"slices"
	"strings"
	"testing"

	"cambium/api"
	"cambium/dirs"
	"cambium/mount"
	"cambium/system"
	"cambium/vol"
)

// choices are numbers in a mixed order.
type choices uint32

func (x *choices) below(n int) int {
	*x = *x*1664525 + 1013904223
	return int(*x>>8) % n
}

func one[T any](x *choices, l []T) T {
	return l[x.below(len(l))]
}

func letters(n int) string {
	return strings.Repeat("k", n)
}

func likeDev(a, b api.Dev) bool {
	return a.Size == b.Size && a.Down == b.Down && a.Fuse == b.Fuse &&
		slices.Equal(a.Blocks, b.Blocks) && slices.Equal(a.Waits, b.Waits)
}

// like tells if two stores are one: nil and empty lists are alike.
func like(a, b api.Store) bool {
	return likeDev(a.Dev, b.Dev) && a.Heap.Size == b.Heap.Size && slices.Equal(a.Heap.Cells, b.Heap.Cells) &&
		a.Slots == b.Slots && a.Valid == b.Valid && a.Table == b.Table
}

func likeHeard(a, b api.Heard) bool {
	return a.Told.Text == b.Told.Text && a.Told.Ino == b.Told.Ino && a.Told.Inode == b.Told.Inode &&
		slices.Equal(a.Told.Entries, b.Told.Entries) && a.Text == b.Text && slices.Equal(a.Names, b.Names) &&
		slices.Equal(a.Volumes, b.Volumes) && slices.Equal(a.Deltas, b.Deltas) && slices.Equal(a.Blocks, b.Blocks)
}

func copied(s api.Store) api.Store {
	s.Dev.Blocks, s.Dev.Waits = slices.Clone(s.Dev.Blocks), slices.Clone(s.Dev.Waits)
	s.Heap.Cells = slices.Clone(s.Heap.Cells)
	return s
}

// bare is a store that has nothing but its device.
func bare(d api.Dev) api.Store {
	return api.Store{Dev: d}
}

// answer is what a call of Do answers.
type answer struct {
	store api.Store
	heard api.Heard
	why   api.Errno
}

func asked(s api.Store, c api.Call) answer {
	after, heard, why := system.Do(s, c)
	return answer{after, heard, why}
}

func (a answer) is(b answer) bool {
	return like(a.store, b.store) && likeHeard(a.heard, b.heard) && a.why == b.why
}

// short tells of what is heard what may be read.
func short(h api.Heard) string {
	h.Told.Text, h.Text = h.Told.Text[:min(len(h.Told.Text), 30)], h.Text[:min(len(h.Text), 30)]
	return fmt.Sprintf("%q, %v", []string{h.Told.Text, h.Text}, []any{h.Told.Ino, h.Told.Inode, h.Told.Entries, h.Names, treeless(h.Volumes), h.Deltas, h.Blocks})
}

func (a answer) want(t *testing.T, what string, want answer) {
	t.Helper()
	if !a.is(want) {
		t.Errorf("%s: heard %s, error %d, not %s, %d; the store is so: %v", what, short(a.heard), a.why, short(want.heard), want.why, like(a.store, want.store))
	}
}

// wantRefused asks for a system as it was, of which nothing is heard.
func (a answer) wantRefused(t *testing.T, what string, s api.Store, why api.Errno) {
	t.Helper()
	a.want(t, what, answer{store: s, why: why})
}

func volCall(kind api.VolOpKind, name, from string) api.Call {
	return api.Call{Kind: api.CallVol, Vol: api.VolOp{Kind: kind, Name: name, From: from}}
}

func fileCall(name string, kind api.OpKind, path string) api.Call {
	return opCall(name, api.Op{Kind: kind, Path: path})
}

func opCall(name string, op api.Op) api.Call {
	return api.Call{Kind: api.CallFile, Name: name, Op: op}
}

func takeCall(name, from, text string) api.Call {
	return api.Call{Kind: api.CallTake, Name: name, From: from, Text: text}
}

var syncCall = api.Call{Kind: api.CallSync}

// fresh is a new system.
func fresh(t *testing.T, size uint32) api.Store {
	t.Helper()
	s, why := system.New(api.Dev{Size: size, Fuse: -1})
	if why != api.OK {
		t.Fatalf("New: error %d", why)
	}
	return s
}

// after is a system of which some calls were asked, none of them refused.
func after(t *testing.T, s api.Store, calls ...api.Call) api.Store {
	t.Helper()
	for i, c := range calls {
		a := asked(s, c)
		if a.why != api.OK || system.Check(a.store) != api.OK {
			t.Fatalf("call %d, of kind %d: error %d, then %d", i, c.Kind, a.why, system.Check(a.store))
		}
		s = a.store
	}
	return s
}

// sampleSize is that of the sample's device.
const sampleSize = 64

// sample has the branches main and work and the snapshot s of main; its superblocks are of Gen 4, that knows of all of them, and 3; the newest changes were not synced.
func sample(t *testing.T) api.Store {
	t.Helper()
	return after(t, fresh(t, sampleSize),
		volCall(api.VolOpMake, "main", ""), fileCall("main", api.OpMkdir, "/a"), fileCall("main", api.OpMake, "/a/f"),
		syncCall,
		opCall("main", api.Op{Kind: api.OpWrite, Path: "/a/f", Data: letters(300)}),
		syncCall,
		volCall(api.VolOpSnap, "s", "main"),
		opCall("main", api.Op{Kind: api.OpWrite, Path: "/a/f", Off: 1, Data: "other"}),
		opCall("main", api.Op{Kind: api.OpLink, Path: "/l", To: "/a"}),
		volCall(api.VolOpClone, "work", "s"),
		syncCall,
		fileCall("work", api.OpUnlink, "/a/f"),
		opCall("main", api.Op{Kind: api.OpSetAttr, Path: "/a", To: "k", Data: "v"}),
	)
}

// itemsOf is what a volume has.
func itemsOf(t *testing.T, s api.Store, name string) []api.Item {
	t.Helper()
	l, why := system.Items(s, name)
	if why != api.OK {
		t.Fatalf("Items of %s: error %d", name, why)
	}
	return l
}

// having is a store with one more volume, that has items, be they a right volume or not.
func having(t *testing.T, s api.Store, name string, l []api.Item) api.Store {
	t.Helper()
	h, table, why := vol.Add(s.Heap, s.Table, name, "", l, 1)
	if why == api.OK {
		s, why = mount.Swap(s, h, table)
	}
	if why != api.OK || mount.Check(s) != api.OK {
		t.Fatalf("a store that has %s: error %d", name, why)
	}
	return s
}

// committed is a store behind its Commit.
func committed(t *testing.T, s api.Store) api.Store {
	t.Helper()
	s, why := mount.Commit(s)
	if why != api.OK {
		t.Fatalf("Commit: error %d", why)
	}
	return s
}

// wrongVolumes are items that are no right volume, each in another way.
func wrongVolumes() map[string][]api.Item {
	root := dirs.New()[0]
	return map[string][]api.Item{
		"nothing":         nil,
		"no key":          {{Key: "k", Val: "v"}},
		"no inode":        {{Key: root.Key, Val: root.Val + "x"}},
		"an entry":        {{Key: "d\x00\x00\x00\x01a", Val: "\x00\x00\x00\x02"}, root},
		"an attribute":    {root, {Key: "x\x00\x00\x00\x02a"}},
		"a chunk of Root": {{Key: "c\x00\x00\x00\x01\x00\x00\x00\x00", Val: "v"}, root},
	}
}
