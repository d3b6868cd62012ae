package vol_test

import (
	"maps"
	"slices"
	"strconv"
	"strings"
	"testing"

	"cambium/api"
	"cambium/dirs"
	"cambium/grow"
	"cambium/heap"
	"cambium/tree"
	"cambium/vol"
)

// choices are numbers in a mixed order.
type choices uint32

func (x *choices) below(n int) int {
	*x = *x*1664525 + 1013904223
	return int(*x>>8) % n
}

func (x *choices) name() string {
	switch x.below(20) {
	case 0:
		return []string{"", ".", "a/b", letters(16), letters(17), letters(24), letters(25)}[x.below(7)]
	}
	return string(rune('a' + x.below(8)))
}

func (x *choices) key() string {
	return strconv.Itoa(100 + x.below(40))
}

func (x *choices) changes() []api.Change {
	var out []api.Change
	for range x.below(12) {
		if x.below(3) == 0 {
			out = append(out, api.Change{Key: x.key()})
		} else {
			out = append(out, api.Change{Key: x.key(), Has: true, Val: letters(x.below(160))})
		}
	}
	if x.below(15) == 0 {
		out = append(out, api.Change{Key: x.key(), Val: "not right"})
	}
	return out
}

func (x *choices) items() []api.Item {
	vals := map[string]string{}
	for range x.below(20) {
		vals[x.key()] = letters(x.below(160))
	}
	l := sorted(vals)
	if x.below(15) == 0 {
		l = append(l, api.Item{})
	}
	return l
}

func sorted(vals map[string]string) []api.Item {
	var l []api.Item
	for _, key := range slices.Sorted(maps.Keys(vals)) {
		l = append(l, api.Item{Key: key, Val: vals[key]})
	}
	return l
}

// plain is a volume as a plain list of items.
type plain struct {
	kind  api.VolKind
	from  string
	born  uint64
	items []api.Item
}

// model is a table of such volumes.
type model map[string]plain

func isName(s string) bool {
	return s != "" && len(s) <= 24 && s != "." && s != ".." && !strings.ContainsAny(s, "/\x00")
}

func (m model) mayAdd(name string) api.Errno {
	_, there := m[name]
	switch {
	case !isName(name):
		return api.ErrName
	case len(name) > 16:
		return api.ErrLong
	case there:
		return api.ErrTwice
	case len(m) >= 6:
		return api.ErrRange
	}
	return api.OK
}

func (m model) do(op api.VolOp, gen uint64) api.Errno {
	v, there := m[op.Name]
	from, fromThere := m[op.From]
	switch op.Kind {
	case api.VolOpMake, api.VolOpSnap, api.VolOpClone:
		if why := m.mayAdd(op.Name); why != api.OK {
			return why
		}
		made := plain{kind: api.VolBranch, born: gen, items: dirs.New()}
		if op.Kind != api.VolOpMake {
			if !fromThere {
				return api.ErrNone
			}
			made.from, made.items = op.From, from.items
		}
		if op.Kind == api.VolOpSnap {
			made.kind = api.VolSnap
		}
		m[op.Name] = made
		return api.OK
	case api.VolOpRoll:
		if !there || !fromThere {
			return api.ErrNone
		}
		if v.kind == api.VolSnap {
			return api.ErrSnap
		}
		v.items = from.items
		m[op.Name] = v
		return api.OK
	case api.VolOpDelete:
		if !there {
			return api.ErrNone
		}
		delete(m, op.Name)
		return api.OK
	}
	return api.ErrForm
}

func (m model) edit(name string, changes []api.Change) api.Errno {
	v, there := m[name]
	if !there {
		return api.ErrNone
	}
	if v.kind == api.VolSnap {
		return api.ErrSnap
	}
	vals := map[string]string{}
	for _, x := range v.items {
		vals[x.Key] = x.Val
	}
	for _, c := range changes {
		if !c.Has && c.Val != "" {
			return api.ErrForm
		}
		if c.Has {
			vals[c.Key] = c.Val
		} else {
			delete(vals, c.Key)
		}
	}
	v.items = sorted(vals)
	m[name] = v
	return api.OK
}

func (m model) add(name, from string, l []api.Item, gen uint64) api.Errno {
	if why := m.mayAdd(name); why != api.OK {
		return why
	}
	if len(from) > 16 {
		return api.ErrLong
	}
	if len(l) > 0 && l[len(l)-1].Key == "" {
		return api.ErrForm
	}
	m[name] = plain{kind: api.VolSnap, from: from, born: gen, items: l}
	return api.OK
}

func (m model) log(name string) []string {
	var names []string
	for {
		v, there := m[name]
		if !there || slices.Contains(names, name) {
			return names
		}
		names = append(names, name)
		name = v.from
	}
}

// wantLike asks for a table to have the model's volumes, and of a heap to have nothing else.
func (m model) wantLike(t *testing.T, h api.Heap, table api.Kid) {
	t.Helper()
	var want []api.Volume
	blocks := map[uint32]int{table.Num: 1}
	for _, name := range slices.Sorted(maps.Keys(m)) {
		v := m[name]
		// The same items are the same tree.
		_, root, _ := grow.Build(h, v.items)
		want = append(want, volOf(name, v.kind, v.from, v.born, root))
		if l, why := vol.Items(h, table, name); !slices.Equal(l, v.items) || why != api.OK {
			t.Fatalf("Items of %s: %v, error %d, not %v", name, l, why, v.items)
		}
		if names, why := vol.Log(h, table, name); !slices.Equal(names, m.log(name)) || why != api.OK {
			t.Fatalf("Log of %s: %v, error %d", name, names, why)
		}
		of, _ := tree.Blocks(h, root.Num)
		for _, num := range of {
			blocks[num]++
		}
	}
	if vols := volumes(t, h, table); !slices.Equal(vols, want) {
		t.Fatalf("List: %v, not %v", vols, want)
	}
	if held, why := heap.Held(h, table.Num); held != 1 || why != api.OK || len(h.Cells) != len(blocks) {
		t.Fatalf("the table is held %d times, error %d; there are %d cells for %d blocks", held, why, len(h.Cells), len(blocks))
	}
}

// step does something with a table and with the model likewise, and tells how many blocks are needed at most.
func (x *choices) step(m model, h api.Heap, table api.Kid, gen uint64) (answer, api.Errno, int) {
	name, from := x.name(), x.name()
	switch x.below(8) {
	case 0, 1, 2:
		changes := x.changes()
		why := m.edit(name, changes)
		need, _ := grow.Need(m[name].items)
		return answered(vol.Edit(h, table, name, changes)), why, need + 1
	case 3:
		l := x.items()
		why := m.add(name, from, l, gen)
		need, _ := grow.Need(l)
		return answered(vol.Add(h, table, name, from, l, gen)), why, need + 1
	}
	op := api.VolOp{Kind: api.VolOpKind(x.below(int(api.VolOpCount) + 1)), Name: name, From: from}
	return answered(vol.Do(h, table, op, gen)), m.do(op, gen), 2
}

// 16.1 to 16.3, 16.5, 16.6: whatever is done, one behind the other, is what the words say of plain lists; without room there is ErrFull, and all is as it was.
func TestAsTheWordsSay(t *testing.T) {
	x := choices(1)
	answers := map[api.Errno]int{}
	for _, size := range []uint32{api.MinBlocks, 24, 48, api.MaxBlocks} {
		for range 2 {
			m := model{}
			h, table := tabled(t, api.Heap{Size: size}, 1)
			for gen := range uint64(100) {
				was, before := copied(h), maps.Clone(m)
				free, _ := heap.Free(h)
				again := x
				a, why, need := x.step(m, h, table, gen)
				unheld, _, _ := again.step(maps.Clone(before), withRefs(h, table.Num, 0), table, gen)
				unheld.wantUnheld(t, a, withRefs(was, table.Num, 0), table)
				if a.why == api.ErrFull && why == api.OK && free < need {
					why = api.ErrFull
				}
				answers[why]++
				if !like(h, was) {
					t.Fatal("the heap that was handed in is otherwise")
				}
				if why != api.OK {
					m = before
					a.wantRefused(t, "a step", h, table, why)
				} else if a.why != api.OK || heap.Check(a.heap) != api.OK {
					t.Fatalf("error %d", a.why)
				}
				h, table = a.heap, a.table
				m.wantLike(t, h, table)
			}
		}
	}
	for _, why := range []api.Errno{api.OK, api.ErrFull, api.ErrForm, api.ErrNone, api.ErrSnap, api.ErrName, api.ErrLong, api.ErrTwice, api.ErrRange} {
		if answers[why] < 3 {
			t.Errorf("error %d was answered %d times alone", why, answers[why])
		}
	}
}

// wantUnheld asks for what a step answers where the table is not held: the error that the step has anyway, or else ErrState; but where the new table is the same cell, that is no more.
func (a answer) wantUnheld(t *testing.T, held answer, h api.Heap, table api.Kid) {
	t.Helper()
	switch {
	case held.why != api.OK:
		a.wantRefused(t, "a step that is refused, and the table is not held", h, table, held.why)
	case held.table != table:
		a.wantRefused(t, "a step, and the table is not held", h, table, api.ErrState)
	default:
		a.want(t, "the same table, and it is not held", api.Heap{Size: h.Size}, table)
	}
}

// 16.5, and the example: a snapshot has what it had when it was made, till it is deleted.
func TestApart(t *testing.T) {
	h, table := tabled(t, api.Heap{Size: 64}, 1)
	do := func(a answer) {
		t.Helper()
		if a.why != api.OK {
			t.Fatalf("error %d", a.why)
		}
		h, table = a.heap, a.table
	}
	want := func(name string, want []api.Item) {
		t.Helper()
		if l, why := vol.Items(h, table, name); !slices.Equal(l, want) || why != api.OK {
			t.Errorf("Items of %s: %v, error %d", name, l, why)
		}
	}
	do(answered(vol.Do(h, table, api.VolOp{Kind: api.VolOpMake, Name: "main"}, 1)))
	do(answered(vol.Do(h, table, api.VolOp{Kind: api.VolOpSnap, Name: "s", From: "main"}, 1)))
	do(answered(vol.Edit(h, table, "main", []api.Change{{Key: "a", Has: true, Val: "v"}})))
	want("s", dirs.New())
	want("main", append([]api.Item{{Key: "a", Val: "v"}}, dirs.New()...))
	do(answered(vol.Do(h, table, api.VolOp{Kind: api.VolOpRoll, Name: "main", From: "s"}, 1)))
	want("main", dirs.New())
	do(answered(vol.Do(h, table, api.VolOp{Kind: api.VolOpDelete, Name: "main"}, 1)))
	want("s", dirs.New())
	if names, why := vol.Log(h, table, "s"); !slices.Equal(names, []string{"s"}) || why != api.OK {
		t.Errorf("Log of s: %v, error %d", names, why)
	}
	if _, why := vol.Items(h, table, "main"); why != api.ErrNone {
		t.Errorf("Items of main: error %d", why)
	}
}

// 16.6: what nothing that is held leads to is gone behind it, also what was put beside.
func TestNoneLost(t *testing.T) {
	h, table := sample(t)
	h, lost := built(t, h, items(30, "lost"))
	h, kept := built(t, h, items(30, "kept"))
	h, _ = heap.Hold(h, kept.Num)
	for what, a := range map[string]answer{
		"edit":      answered(vol.Edit(h, table, "b", nil)),
		"make":      answered(vol.Do(h, table, api.VolOp{Kind: api.VolOpMake, Name: "n"}, 1)),
		"delete":    answered(vol.Do(h, table, api.VolOp{Kind: api.VolOpDelete, Name: "c"}, 1)),
		"roll":      answered(vol.Do(h, table, api.VolOp{Kind: api.VolOpRoll, Name: "b", From: "b"}, 1)),
		"add":       answered(vol.Add(h, table, "n", "", items(3, "n"), 1)),
		"edit of e": answered(vol.Edit(h, table, "e", []api.Change{{Key: "a", Has: true}})),
	} {
		if _, why := heap.Get(a.heap, lost.Num); a.why != api.OK || why != api.ErrNone {
			t.Errorf("%s: error %d, %d", what, a.why, why)
		}
		if l, why := tree.All(a.heap, kept.Num); !slices.Equal(l, items(30, "kept")) || why != api.OK {
			t.Errorf("%s: what is held is %v, error %d", what, l, why)
		}
	}
}

// 16.4: what is answered is written to, and appended to, and nothing else is otherwise.
func TestNewMemory(t *testing.T) {
	h, table := sample(t)
	room := append(h.Cells, api.Cell{Num: 255})
	h.Cells = room[:len(room)-1]
	was := slices.Clone(room)
	l, changes := items(4, "n"), []api.Change{{Key: "a", Has: true, Val: "v"}, {Key: "1000"}}
	wantL, wantChanges := slices.Clone(l), slices.Clone(changes)
	for what, ask := range map[string]func() answer{
		"edit":    func() answer { return answered(vol.Edit(h, table, "b", changes)) },
		"edited":  func() answer { return answered(vol.Edit(h, table, "b", nil)) },
		"make":    func() answer { return answered(vol.Do(h, table, api.VolOp{Kind: api.VolOpMake, Name: "n"}, 1)) },
		"delete":  func() answer { return answered(vol.Do(h, table, api.VolOp{Kind: api.VolOpDelete, Name: "b"}, 1)) },
		"add":     func() answer { return answered(vol.Add(h, table, "n", "", l, 1)) },
		"no name": func() answer { return answered(vol.Add(h, table, "", "", l, 1)) },
		"no kind": func() answer { return answered(vol.Do(h, table, api.VolOp{}, 1)) },
		"none":    func() answer { return answered(vol.Edit(h, table, "none", changes)) },
		"bad":     func() answer { return answered(vol.Edit(h, api.Kid{Num: 3}, "b", changes)) },
	} {
		first, second := ask(), ask()
		kept := copied(second.heap)
		for i := range first.heap.Cells {
			first.heap.Cells[i] = api.Cell{}
		}
		_ = append(first.heap.Cells, api.Cell{})
		if !like(second.heap, kept) || !like(ask().heap, kept) || !slices.Equal(room, was) {
			t.Errorf("%s: answers share memory", what)
		}
	}
	vols, _ := vol.List(h, table)
	list, _ := vol.Items(h, table, "b")
	names, _ := vol.Log(h, table, "b")
	vols[0].Name, list[0].Key, names[0] = "other", "other", "other"
	_, _, _ = append(vols, api.Volume{}), append(list, api.Item{}), append(names, "")
	if volumes(t, h, table)[0].Name != "b" {
		t.Error("List shares memory")
	}
	if again, _ := vol.Items(h, table, "b"); !slices.Equal(again, sampleItems()["b"]) {
		t.Error("Items shares memory")
	}
	if again, _ := vol.Log(h, table, "b"); again[0] != "b" {
		t.Error("Log shares memory")
	}
	if !slices.Equal(room, was) || !slices.Equal(l, wantL) || !slices.Equal(changes, wantChanges) {
		t.Error("what was handed in is otherwise")
	}
}
