package vol_test

import (
	"slices"
	"testing"

	"cambium/api"
	"cambium/dirs"
	"cambium/grow"
	"cambium/heap"
	"cambium/vol"
)

// fourCalls has a table be otherwise by Put, Hold, Drop and Sweep, one behind the other, in a heap with what the new table leads to; with the first error of these heap and table are as they were.
func fourCalls(h api.Heap, old api.Kid, grown api.Heap, vols []api.Volume) answer {
	after, table, why := heap.Put(grown, api.Node{Kind: api.NodeTable, Volumes: vols})
	if why == api.OK {
		after, why = heap.Hold(after, table.Num)
	}
	if why == api.OK {
		after, why = heap.Drop(after, old.Num)
	}
	if why == api.OK {
		after, why = heap.Sweep(after)
	}
	if why != api.OK {
		return answer{h, old, why}
	}
	return answer{after, table, api.OK}
}

// tried is a call that changes the sample's table, if it is not the same one behind it: what it answers, and what the four calls leave.
type tried struct {
	what      string
	same      bool
	got, want answer
}

// tryEach makes each call that has a table be otherwise.
func tryEach(t *testing.T, h api.Heap, table api.Kid) []tried {
	t.Helper()
	vols := volumes(t, h, table)
	b, c := vols[0], vols[1]
	changes := []api.Change{{Key: "1000"}, {Key: "a", Has: true, Val: "v"}}
	edited, editedRoot, why := grow.Change(h, b.Root, changes)
	if why != api.OK {
		t.Fatalf("Change: error %d", why)
	}
	made, madeRoot := built(t, h, dirs.New())
	added, addedRoot := built(t, h, items(9, "n"))
	root := api.Kid{Num: b.Root, Hash: b.Hash}
	do := func(kind api.VolOpKind, name, from string) answer {
		return answered(vol.Do(h, table, api.VolOp{Kind: kind, Name: name, From: from}, 9))
	}
	then := func(grown api.Heap, vols []api.Volume) answer {
		return fourCalls(h, table, grown, vols)
	}
	return []tried{
		{"edit", false, answered(vol.Edit(h, table, "b", changes)), then(edited, with(vols, volOf("b", b.Kind, b.From, b.Born, editedRoot)))},
		{"edit of nothing", true, answered(vol.Edit(h, table, "b", nil)), then(h, vols)},
		{"make", false, do(api.VolOpMake, "n", ""), then(made, with(vols, volOf("n", api.VolBranch, "", 9, madeRoot)))},
		{"snap", false, do(api.VolOpSnap, "n", "b"), then(h, with(vols, volOf("n", api.VolSnap, "b", 9, root)))},
		{"clone", false, do(api.VolOpClone, "n", "b"), then(h, with(vols, volOf("n", api.VolBranch, "b", 9, root)))},
		{"roll", false, do(api.VolOpRoll, "c", "b"), then(h, with(vols, volOf("c", c.Kind, c.From, c.Born, root)))},
		{"roll to itself", true, do(api.VolOpRoll, "b", "b"), then(h, vols)},
		{"delete", false, do(api.VolOpDelete, "c", ""), then(h, without(vols, "c"))},
		{"add", false, answered(vol.Add(h, table, "n", "x", items(9, "n"), 9)), then(added, with(vols, volOf("n", api.VolSnap, "x", 9, addedRoot)))},
	}
}

// wantEach asks each call for what the four calls leave: also a table that is not held is dropped, and what is told of that is answered.
func wantEach(t *testing.T, what string, h api.Heap, table api.Kid) {
	t.Helper()
	held, _ := heap.Held(h, table.Num)
	for _, x := range tryEach(t, h, table) {
		if held == 0 && !x.same {
			x.got.wantRefused(t, what+", "+x.what, h, table, api.ErrState)
			continue
		}
		x.got.want(t, what+", "+x.what, x.want.heap, x.want.table)
		if x.same != (x.got.table == table) || heap.Check(x.got.heap) != api.OK {
			t.Errorf("%s, %s: the table %v, of the heap %v", what, x.what, x.got.table, numbers(x.got.heap))
		}
	}
}

// 16.1 to 16.3, Words: the old table is dropped, however often it is held: with an error, if it is not.
func TestHeldTables(t *testing.T) {
	for held, what := range [...]string{"not held", "held once", "held twice", "held three times"} {
		h, table := heldSample(t, held)
		wantEach(t, what, h, table)
		lost, _ := built(t, h, items(30, "lost"))
		wantEach(t, what+", with others beside it", lost, table)
	}
}

// Words: those that lead to a table do not hold it, and what is held has it as it was.
func TestTableBelowAnother(t *testing.T) {
	for held, what := range [...]string{"not held, below another", "held once, below another", "held twice, below another"} {
		h, inner := heldSample(t, held)
		h, outer := tabled(t, h, 1, volOf("v", api.VolSnap, "", 0, inner), volOf("w", api.VolSnap, "v", 0, inner))
		wantEach(t, what, h, inner)
		was := volumes(t, h, inner)
		for _, x := range tryEach(t, h, inner) {
			if !slices.Equal(volumes(t, x.got.heap, inner), was) || len(volumes(t, x.got.heap, outer)) != 2 {
				t.Errorf("%s, %s: the heap %v", what, x.what, numbers(x.got.heap))
			}
		}
	}
}

// Words: what is below nothing that is held is swept, also a table that is the same, but was not held.
func TestSameTableNotHeld(t *testing.T) {
	h, table := heldSample(t, 0)
	for what, a := range map[string]answer{
		"edit of nothing":   answered(vol.Edit(h, table, "e", nil)),
		"edit, and back":    answered(vol.Edit(h, table, "b", []api.Change{{Key: "a", Has: true}, {Key: "a"}})),
		"roll to itself":    answered(vol.Do(h, table, api.VolOp{Kind: api.VolOpRoll, Name: "b", From: "b"}, 1)),
		"roll to the alike": answered(vol.Do(h, table, api.VolOp{Kind: api.VolOpRoll, Name: "b", From: "s"}, 1)),
	} {
		a.want(t, what, api.Heap{Size: h.Size}, table)
	}
}

// Words: a table that is there twice is put as the first one of its cells, and the other one is dropped.
func TestTableThereTwice(t *testing.T) {
	first := cellOf(t, 2, api.Node{Kind: api.NodeTable, Volumes: []api.Volume{volOf("b", api.VolBranch, "", 0, api.Kid{})}}, 0)
	second := first
	second.Num = 3
	for held := range 3 {
		first.Refs, second.Refs = 1, held
		h, table := api.Heap{Size: api.MinBlocks, Cells: []api.Cell{first, second}}, kidOf(second)
		a := answered(vol.Edit(h, table, "b", nil))
		if held == 0 {
			a.wantRefused(t, "not held", h, table, api.ErrState)
			continue
		}
		then := api.Heap{Size: h.Size, Cells: []api.Cell{first}}
		then.Cells[0].Refs = 2
		if held == 2 {
			second.Refs = 1
			then.Cells = append(then.Cells, second)
		}
		a.want(t, "held", then, kidOf(first))
	}
}

// 16.1 to 16.3, Words: the errors that a call has ahead of the four, and those of Put and Hold, are told ahead of that of Drop.
func TestErrorsAheadOfDrop(t *testing.T) {
	h, table := heldSample(t, 0)
	answered(vol.Edit(h, table, "none", nil)).wantRefused(t, "edit", h, table, api.ErrNone)
	answered(vol.Edit(h, table, "s", nil)).wantRefused(t, "edit", h, table, api.ErrSnap)
	answered(vol.Edit(h, table, "b", []api.Change{{}})).wantRefused(t, "edit", h, table, api.ErrForm)
	answered(vol.Do(h, table, api.VolOp{Name: "n"}, 1)).wantRefused(t, "no kind", h, table, api.ErrForm)
	answered(vol.Do(h, table, api.VolOp{Kind: api.VolOpMake, Name: "b"}, 1)).wantRefused(t, "make", h, table, api.ErrTwice)
	answered(vol.Do(h, table, api.VolOp{Kind: api.VolOpRoll, Name: "s", From: "b"}, 1)).wantRefused(t, "roll", h, table, api.ErrSnap)
	answered(vol.Do(h, table, api.VolOp{Kind: api.VolOpDelete, Name: "n"}, 1)).wantRefused(t, "delete", h, table, api.ErrNone)
	answered(vol.Add(h, table, "/", "", nil, 1)).wantRefused(t, "add", h, table, api.ErrName)
	answered(vol.Add(h, table, "n", "", []api.Item{{}}, 1)).wantRefused(t, "add", h, table, api.ErrForm)
	other := table
	other.Hash[0] ^= 1
	answered(vol.Add(h, other, "n", "", nil, 1)).wantRefused(t, "another Hash", h, other, api.ErrBad)

	small := copied(h)
	small.Size = uint32(len(h.Cells) + 2)
	answered(vol.Do(small, table, api.VolOp{Kind: api.VolOpDelete, Name: "b"}, 1)).wantRefused(t, "no room", small, table, api.ErrFull)
	answered(vol.Add(small, table, "n", "", nil, 1)).wantRefused(t, "no room", small, table, api.ErrFull)

	// The table that comes is there already, and may not be held any more.
	there, held := tabled(t, h, 1, without(volumes(t, h, table), "b")...)
	there = withRefs(there, held.Num, maxRefs)
	answered(vol.Do(there, table, api.VolOp{Kind: api.VolOpDelete, Name: "b"}, 1)).wantRefused(t, "too many Refs", there, table, api.ErrRange)
	there = withRefs(there, held.Num, maxRefs-1)
	answered(vol.Do(there, table, api.VolOp{Kind: api.VolOpDelete, Name: "b"}, 1)).wantRefused(t, "not too many Refs", there, table, api.ErrState)
}

// Words: an input that was answered otherwise once: a table without volumes, to which two branches lead as often as it has Refs.
func TestTableBelowBranches(t *testing.T) {
	inner := cellOf(t, 2, api.Node{Kind: api.NodeTable}, 2)
	a := kidOf(inner)
	a.Key = "a"
	middle := cellOf(t, 3, api.Node{Kind: api.NodeBranch, Kids: []api.Kid{a}}, 1)
	b := kidOf(middle)
	b.Key = "b"
	upper := cellOf(t, 4, api.Node{Kind: api.NodeBranch, Kids: []api.Kid{a, b}}, 0)
	h, table := api.Heap{Size: api.MinBlocks, Cells: []api.Cell{inner, middle, upper}}, kidOf(inner)
	answered(vol.Add(h, table, "n", "", nil, 0)).wantRefused(t, "add", h, table, api.ErrState)
	answered(vol.Do(h, table, api.VolOp{Kind: api.VolOpMake, Name: "n"}, 0)).wantRefused(t, "make", h, table, api.ErrState)
	then := api.Heap{Size: h.Size, Cells: []api.Cell{cellOf(t, 5, api.Node{Kind: api.NodeTable, Volumes: []api.Volume{volOf("n", api.VolSnap, "", 0, api.Kid{})}}, 1)}}
	answered(vol.Add(withRefs(h, 2, 3), table, "n", "", nil, 0)).want(t, "held once", then, kidOf(then.Cells[0]))
}
