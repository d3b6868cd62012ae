package vol_test

import (
	"math"
	"slices"
	"testing"

	"cambium/api"
	"cambium/dirs"
	"cambium/grow"
	"cambium/heap"
	"cambium/item"
	"cambium/vol"
)

// 16.1: a table's volumes, and what each has.
func TestListAndItems(t *testing.T) {
	h, table := sample(t)
	n, _ := heap.Get(h, table.Num)
	if vols, why := vol.List(h, table); !slices.Equal(vols, n.Volumes) || len(vols) != 4 || why != api.OK {
		t.Errorf("List: %v, error %d", vols, why)
	}
	for name, want := range sampleItems() {
		if l, why := vol.Items(h, table, name); !slices.Equal(l, want) || why != api.OK {
			t.Errorf("Items of %s: %v, error %d", name, l, why)
		}
	}
	for _, name := range []string{"", "a", "bb", "gone", "B", letters(17)} {
		if l, why := vol.Items(h, table, name); l != nil || why != api.ErrNone {
			t.Errorf("Items of %q: %v, error %d", name, l, why)
		}
		if names, why := vol.Log(h, table, name); names != nil || why != api.ErrNone {
			t.Errorf("Log of %q: %v, error %d", name, names, why)
		}
	}
	empty, none := tabled(t, api.Heap{Size: api.MinBlocks}, 0)
	if vols, why := vol.List(empty, none); len(vols) != 0 || why != api.OK {
		t.Errorf("List of no volumes: %v, error %d", vols, why)
	}
}

// 16.1: what a volume was made of, up to and without the first one that is not there, or was named already.
func TestLog(t *testing.T) {
	h := api.Heap{Size: api.MinBlocks}
	h, table := tabled(t, h, 1, volOf("a", api.VolBranch, "b", 0, api.Kid{}), volOf("b", api.VolSnap, "c", 0, api.Kid{}), volOf("c", api.VolBranch, "a", 0, api.Kid{}),
		volOf("d", api.VolBranch, "a", 0, api.Kid{}), volOf("e", api.VolBranch, "e", 0, api.Kid{}), volOf("f", api.VolSnap, "", 0, api.Kid{}))
	for name, want := range map[string][]string{"a": {"a", "b", "c"}, "b": {"b", "c", "a"}, "c": {"c", "a", "b"}, "d": {"d", "a", "b", "c"}, "e": {"e"}, "f": {"f"}} {
		if names, why := vol.Log(h, table, name); !slices.Equal(names, want) || why != api.OK {
			t.Errorf("Log of %s: %v, error %d", name, names, why)
		}
	}
	h, table = sample(t)
	for name, want := range map[string][]string{"b": {"b", "c", "e"}, "c": {"c", "e"}, "e": {"e"}, "s": {"s", "b", "c", "e"}} {
		if names, why := vol.Log(h, table, name); !slices.Equal(names, want) || why != api.OK {
			t.Errorf("Log of %s: %v, error %d", name, names, why)
		}
	}
}

// 16.2: a branch has another tree, and the table is so.
func TestEdit(t *testing.T) {
	h, table := sample(t)
	vols := volumes(t, h, table)
	for name, at := range map[string]int{"b": 0, "c": 1, "e": 2} {
		for what, changes := range map[string][]api.Change{
			"more":    {{Key: "a", Has: true, Val: "v"}, {Key: "1", Has: true, Val: "w"}},
			"one":     {{Key: "1003", Has: true, Val: "other"}},
			"gone":    {{Key: "1000"}, {Key: "1001"}, {Key: "none"}},
			"nothing": nil,
			"back":    {{Key: "a", Has: true, Val: "v"}, {Key: "a"}},
		} {
			then, root, why := grow.Change(h, vols[at].Root, changes)
			if why != api.OK {
				t.Fatalf("Change: error %d", why)
			}
			v := vols[at]
			v.Root, v.Hash = root.Num, root.Hash
			then, thenTable := otherwise(t, then, table, with(vols, v))
			answered(vol.Edit(h, table, name, changes)).want(t, name+", "+what, then, thenTable)
		}
		for _, wrong := range [][]api.Change{{{}}, {{Key: "a", Val: "v"}}, {{Key: letters(api.MaxKey + 1), Has: true}}, {{Key: "a", Has: true}, {Key: "b", Has: true, Val: letters(api.MaxVal + 1)}}} {
			answered(vol.Edit(h, table, name, wrong)).wantRefused(t, name, h, table, api.ErrForm)
		}
	}
	for _, changes := range [][]api.Change{nil, {{}}, {{Key: "a", Has: true}}} {
		answered(vol.Edit(h, table, "s", changes)).wantRefused(t, "a snapshot", h, table, api.ErrSnap)
		for _, name := range []string{"", "a", "gone", letters(1000)} {
			answered(vol.Edit(h, table, name, changes)).wantRefused(t, "no volume", h, table, api.ErrNone)
		}
	}
	var all []api.Change
	for _, x := range sampleItems()["c"] {
		all = append(all, api.Change{Key: x.Key})
	}
	a := answered(vol.Edit(h, table, "c", all))
	if v := volumes(t, a.heap, a.table)[1]; v != volOf("c", api.VolBranch, "e", 6, api.Kid{}) || a.why != api.OK {
		t.Errorf("a branch that has nothing any more: %v, error %d", v, a.why)
	}
}

// 16.3: a branch that is made has what a new volume has.
func TestDoMake(t *testing.T) {
	for _, name := range []string{"a", "d", "z", "main", letters(api.MaxVolume), "\xff", " "} {
		for _, gen := range []uint64{0, 1, api.MaxGen, math.MaxUint64} {
			h, table := sample(t)
			then, root := built(t, h, dirs.New())
			then, thenTable := otherwise(t, then, table, with(volumes(t, h, table), volOf(name, api.VolBranch, "", gen, root)))
			answered(vol.Do(h, table, api.VolOp{Kind: api.VolOpMake, Name: name, From: "no matter"}, gen)).want(t, name, then, thenTable)
			if l, why := vol.Items(then, thenTable, name); !slices.Equal(l, dirs.New()) || why != api.OK {
				t.Errorf("Items of %s: %v, error %d", name, l, why)
			}
		}
	}
}

// 16.3: a snapshot, or a branch, that is made of another volume has what that has.
func TestDoSnapAndClone(t *testing.T) {
	h, table := sample(t)
	for op, kind := range map[api.VolOpKind]api.VolKind{api.VolOpSnap: api.VolSnap, api.VolOpClone: api.VolBranch} {
		for _, from := range volumes(t, h, table) {
			v := from
			v.Name, v.Kind, v.From, v.Born = "n", kind, from.Name, 9
			then, thenTable := otherwise(t, h, table, with(volumes(t, h, table), v))
			answered(vol.Do(h, table, api.VolOp{Kind: op, Name: "n", From: from.Name}, 9)).want(t, from.Name, then, thenTable)
		}
		for _, from := range []string{"", "n", "gone", "/", letters(1000)} {
			answered(vol.Do(h, table, api.VolOp{Kind: op, Name: "n", From: from}, 9)).wantRefused(t, from, h, table, api.ErrNone)
		}
	}
}

// 16.3: names that may not be, and those that are there already, are told ahead of too many volumes, and these of what is to be made of.
func TestWrongNames(t *testing.T) {
	h, table := sample(t)
	six, sixTable := h, table
	for _, name := range []string{"t", "u"} {
		six, sixTable, _ = vol.Do(six, sixTable, api.VolOp{Kind: api.VolOpSnap, Name: name, From: "b"}, 1)
	}
	for _, x := range []struct {
		h     api.Heap
		table api.Kid
		name  string
		why   api.Errno
	}{
		{h, table, "", api.ErrName}, {h, table, ".", api.ErrName}, {h, table, "..", api.ErrName}, {h, table, "a/b", api.ErrName}, {h, table, "a\x00", api.ErrName},
		{h, table, letters(api.MaxName + 1), api.ErrName}, {h, table, letters(api.MaxName), api.ErrLong}, {h, table, letters(api.MaxVolume + 1), api.ErrLong},
		{h, table, "b", api.ErrTwice}, {h, table, "s", api.ErrTwice}, {h, table, "e", api.ErrTwice},
		{six, sixTable, "", api.ErrName}, {six, sixTable, letters(17), api.ErrLong}, {six, sixTable, "u", api.ErrTwice}, {six, sixTable, "n", api.ErrRange},
	} {
		for _, kind := range []api.VolOpKind{api.VolOpMake, api.VolOpSnap, api.VolOpClone} {
			for _, from := range []string{"b", "none", ""} {
				answered(vol.Do(x.h, x.table, api.VolOp{Kind: kind, Name: x.name, From: from}, 1)).wantRefused(t, x.name, x.h, x.table, x.why)
			}
		}
		for _, from := range []string{"b", "none", "", letters(17)} {
			answered(vol.Add(x.h, x.table, x.name, from, []api.Item{{}}, 1)).wantRefused(t, x.name, x.h, x.table, x.why)
		}
	}
	if len(volumes(t, six, sixTable)) != api.MaxVolumes {
		t.Errorf("there are not as many volumes as may be")
	}
}

// 16.3: a branch that is rolled has what another volume has, and is else as it was.
func TestDoRoll(t *testing.T) {
	h, table := sample(t)
	vols := volumes(t, h, table)
	for _, v := range vols {
		for _, from := range vols {
			op := api.VolOp{Kind: api.VolOpRoll, Name: v.Name, From: from.Name}
			if v.Kind == api.VolSnap {
				answered(vol.Do(h, table, op, 99)).wantRefused(t, v.Name, h, table, api.ErrSnap)
				continue
			}
			rolled := v
			rolled.Root, rolled.Hash = from.Root, from.Hash
			then, thenTable := otherwise(t, h, table, with(vols, rolled))
			answered(vol.Do(h, table, op, 99)).want(t, v.Name+" to "+from.Name, then, thenTable)
		}
		for _, none := range []string{"", "none", letters(1000)} {
			answered(vol.Do(h, table, api.VolOp{Kind: api.VolOpRoll, Name: v.Name, From: none}, 1)).wantRefused(t, v.Name, h, table, api.ErrNone)
			answered(vol.Do(h, table, api.VolOp{Kind: api.VolOpRoll, Name: none, From: v.Name}, 1)).wantRefused(t, v.Name, h, table, api.ErrNone)
		}
	}
}

// 16.3: what is deleted is no more, and what only it had is free.
func TestDoDelete(t *testing.T) {
	h, table := sample(t)
	vols := volumes(t, h, table)
	for _, v := range vols {
		then, thenTable := otherwise(t, h, table, without(vols, v.Name))
		answered(vol.Do(h, table, api.VolOp{Kind: api.VolOpDelete, Name: v.Name, From: "no matter"}, 1)).want(t, v.Name, then, thenTable)
	}
	for _, name := range []string{"", "none", "gone", letters(1000)} {
		answered(vol.Do(h, table, api.VolOp{Kind: api.VolOpDelete, Name: name}, 1)).wantRefused(t, name, h, table, api.ErrNone)
	}
	for _, v := range vols {
		h, table, _ = vol.Do(h, table, api.VolOp{Kind: api.VolOpDelete, Name: v.Name}, 1)
	}
	if len(h.Cells) != 1 || h.Cells[0].Num != table.Num || h.Cells[0].Refs != 1 {
		t.Errorf("without volumes: %v", numbers(h))
	}
}

// 16.3: a kind that is none is told first.
func TestWrongKinds(t *testing.T) {
	h, table := sample(t)
	for _, kind := range []api.VolOpKind{api.VolOpNone, api.VolOpCount, api.VolOpCount + 1, math.MaxUint8} {
		for _, name := range []string{"b", "none", ""} {
			answered(vol.Do(h, table, api.VolOp{Kind: kind, Name: name, From: name}, 1)).wantRefused(t, name, h, table, api.ErrForm)
		}
	}
}

// 16.3: a snapshot of items that are handed in, whatever it is told to be made of.
func TestAdd(t *testing.T) {
	h, table := sample(t)
	for _, l := range [][]api.Item{nil, {}, items(1, "a"), items(7, "c"), items(60, "b"), items(90, "z"), dirs.New()} {
		for _, from := range []string{"", "b", "none", "a/b", "n", letters(api.MaxVolume)} {
			then, root := built(t, h, l)
			then, thenTable := otherwise(t, then, table, with(volumes(t, h, table), volOf("n", api.VolSnap, from, 9, root)))
			answered(vol.Add(h, table, "n", from, l, 9)).want(t, from, then, thenTable)
			if got, why := vol.Items(then, thenTable, "n"); !slices.Equal(got, l) || why != api.OK {
				t.Errorf("Items: %v, error %d", got, why)
			}
		}
		answered(vol.Add(h, table, "n", letters(api.MaxVolume+1), l, 9)).wantRefused(t, "a long one", h, table, api.ErrLong)
	}
	for _, l := range [][]api.Item{{{}}, {{Key: "b"}, {Key: "a"}}, {{Key: letters(api.MaxKey + 1)}}, {{Key: "a", Val: letters(api.MaxVal + 1)}}} {
		if item.Check(l) != api.ErrForm {
			t.Fatalf("%v is right", l)
		}
		answered(vol.Add(h, table, "n", "", l, 9)).wantRefused(t, "wrong items", h, table, api.ErrForm)
		answered(vol.Add(h, table, "n", letters(api.MaxVolume+1), l, 9)).wantRefused(t, "wrong items", h, table, api.ErrLong)
	}
}
