package system

import (
	"slices"
	"sync"

	"cambium/api"
	"cambium/dirs"
	"cambium/mount"
	"cambium/vol"
)

// atWork is a system at work: what its volumes have is known when it was checked.
type atWork struct {
	api.Store
	once  sync.Once
	right bool
	vols  []api.Volume
	had   map[uint32][]api.Item // of each volume's root what its tree has
}

// check looks through the volumes when that is first asked.
func (w *atWork) check() api.Errno {
	w.once.Do(w.look)
	if !w.right {
		return api.ErrState
	}
	return api.OK
}

func (w *atWork) look() {
	if mount.Check(w.Store) != api.OK {
		return
	}
	// The store is right, and so is its table.
	w.vols, _ = vol.List(w.Heap, w.Table)
	read, _ := vol.Reader(w.Heap, w.Table)
	w.had = map[uint32][]api.Item{}
	wrong := func(v api.Volume) bool {
		// Volumes may share a tree: behind one that is wrong none is asked for.
		if _, known := w.had[v.Root]; known {
			return false
		}
		// What can't be read is nothing, and that is no right volume.
		l, _ := read(v.Name)
		w.had[v.Root] = l
		return dirs.Check(l) != api.OK
	}
	w.right = !slices.ContainsFunc(w.vols, wrong)
}

func (w *atWork) volume(name string) (api.Volume, api.Errno) {
	at := slices.IndexFunc(w.vols, func(v api.Volume) bool { return v.Name == name })
	if at < 0 {
		return api.Volume{}, api.ErrNone
	}
	return w.vols[at], api.OK
}

// items is what a volume has.
func (w *atWork) items(name string) ([]api.Item, api.Errno) {
	v, why := w.volume(name)
	if why != api.OK {
		return nil, why
	}
	return w.had[v.Root], api.OK
}

// base is what a stream is received on: what a volume has, or nothing, if it is not named.
func (w *atWork) base(name string) ([]api.Item, api.Errno) {
	if name == "" {
		return nil, api.OK
	}
	return w.items(name)
}

// generation is that of the newest superblock.
func (w *atWork) generation() uint64 {
	// A slot that is not Valid is zero.
	return max(w.Slots[0].Gen, w.Slots[1].Gen)
}

// swap has a heap and a table be the system's, if there was no error in making them.
func (w *atWork) swap(h api.Heap, table api.Kid, why api.Errno) api.Errno {
	if why != api.OK {
		return why
	}
	after, why := mount.Swap(w.Store, h, table)
	if why == api.OK {
		w.Store = after
	}
	return why
}
