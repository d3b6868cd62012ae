package vol

import (
	"slices"
	"strings"

	"cambium/api"
	"cambium/dirs"
	"cambium/grow"
	"cambium/heap"
	"cambium/path"
)

// turn is a table at work, with its heap.
type turn struct {
	heap api.Heap
	vols []api.Volume
}

// turned has a table be as do makes it; with an error heap and table are as they were.
func turned(h api.Heap, table api.Kid, do func(*turn) api.Errno) (api.Heap, api.Kid, api.Errno) {
	vols, why := readTable(h, table)
	if why == api.ErrState {
		// The heap itself is not right.
		return api.Heap{}, api.Kid{}, why
	}
	if why != api.OK {
		return copied(h), table, why
	}
	t := turn{heap: h, vols: vols}
	if why := do(&t); why != api.OK {
		return copied(h), table, why
	}
	after, kid, why := t.finish(table)
	if why != api.OK {
		return copied(h), table, why
	}
	return after, kid, api.OK
}

// finish puts the table in place of the old one. The old one is dropped even if it is not held, or is the same cell: what heap.Drop says of that is for the caller to hear.
func (t *turn) finish(old api.Kid) (api.Heap, api.Kid, api.Errno) {
	h, kid, why := heap.Put(t.heap, api.Node{Kind: api.NodeTable, Volumes: t.vols})
	if why == api.OK {
		h, why = heap.Hold(h, kid.Num)
	}
	if why == api.OK {
		h, why = heap.Drop(h, old.Num)
	}
	if why == api.OK {
		h, why = heap.Sweep(h)
	}
	return h, kid, why
}

func (t *turn) do(op api.VolOp, gen uint64) api.Errno {
	switch op.Kind {
	case api.VolOpMake:
		return t.create(op.Name, gen)
	case api.VolOpSnap:
		return t.branchOff(op, api.VolSnap, gen)
	case api.VolOpClone:
		return t.branchOff(op, api.VolBranch, gen)
	case api.VolOpRoll:
		return t.roll(op)
	case api.VolOpDelete:
		return t.remove(op.Name)
	}
	return api.ErrForm
}

func (t *turn) create(name string, gen uint64) api.Errno {
	if why := t.mayAdd(name); why != api.OK {
		return why
	}
	return t.grow(api.Volume{Name: name, Kind: api.VolBranch, Born: gen}, dirs.New())
}

// branchOff makes a volume of another one.
func (t *turn) branchOff(op api.VolOp, kind api.VolKind, gen uint64) api.Errno {
	if why := t.mayAdd(op.Name); why != api.OK {
		return why
	}
	from, found := find(t.vols, called(op.From))
	if !found {
		return api.ErrNone
	}
	t.put(api.Volume{Name: op.Name, Kind: kind, From: op.From, Born: gen, Root: from.Root, Hash: from.Hash})
	return api.OK
}

func (t *turn) roll(op api.VolOp) api.Errno {
	v, found := find(t.vols, called(op.Name))
	from, foundFrom := find(t.vols, called(op.From))
	switch {
	case !found || !foundFrom:
		return api.ErrNone
	case v.Kind == api.VolSnap:
		return api.ErrSnap
	}
	v.Root, v.Hash = from.Root, from.Hash
	t.put(v)
	return api.OK
}

func (t *turn) remove(name string) api.Errno {
	at, found := t.at(name)
	if !found {
		return api.ErrNone
	}
	t.vols = slices.Delete(t.vols, at, at+1)
	return api.OK
}

// mayAdd tells why there may not be a further volume of a name.
func (t *turn) mayAdd(name string) api.Errno {
	_, found := t.at(name)
	switch {
	case !path.Name(name):
		return api.ErrName
	case len(name) > api.MaxVolume:
		return api.ErrLong
	case found:
		return api.ErrTwice
	case len(t.vols) >= api.MaxVolumes:
		return api.ErrRange
	}
	return api.OK
}

// grow makes a volume whose tree is that of items.
func (t *turn) grow(v api.Volume, l []api.Item) api.Errno {
	after, root, why := grow.Build(t.heap, l)
	if why != api.OK {
		return why
	}
	t.heap = after
	t.put(having(v, root))
	return api.OK
}

// put puts a volume where its name stands, in place of the one of that name, if there is one.
func (t *turn) put(v api.Volume) {
	at, found := t.at(v.Name)
	if found {
		t.vols[at] = v
		return
	}
	t.vols = slices.Insert(t.vols, at, v)
}

func (t *turn) at(name string) (int, bool) {
	return slices.BinarySearchFunc(t.vols, name, func(v api.Volume, name string) int {
		return strings.Compare(v.Name, name)
	})
}

func copied(h api.Heap) api.Heap {
	h.Cells = append([]api.Cell(nil), h.Cells...)
	return h
}
