package system

import (
	"cambium/api"
	"cambium/delta"
	"cambium/dev"
	"cambium/files"
	"cambium/mount"
	"cambium/stream"
	"cambium/vol"
)

// do does what is asked for; with an error the system is as it was, but of a CallSync, and nothing is heard.
func (w *atWork) do(c api.Call) (api.Heard, api.Errno) {
	switch c.Kind {
	case api.CallVol:
		h, table, why := vol.Do(w.Heap, w.Table, c.Vol, w.generation())
		return api.Heard{}, w.swap(h, table, why)
	case api.CallFile:
		return w.file(c)
	case api.CallSync:
		return api.Heard{}, w.sync()
	case api.CallList:
		return api.Heard{Volumes: w.vols}, api.OK
	case api.CallLog:
		names, why := vol.Log(w.Heap, w.Table, c.Name)
		return api.Heard{Names: names}, why
	case api.CallPaths:
		return w.paths(c)
	case api.CallSend:
		return w.send(c)
	case api.CallTake:
		return api.Heard{}, w.take(c)
	case api.CallScrub:
		return w.scrub()
	}
	return api.Heard{}, api.ErrForm
}

// writes tells if an Op is none of those that only tell something, be it one or not.
func writes(op api.Op) bool {
	switch op.Kind {
	case api.OpRead, api.OpStat, api.OpList, api.OpGetAttr:
		return false
	}
	return true
}

func (w *atWork) file(c api.Call) (api.Heard, api.Errno) {
	v, why := w.volume(c.Name)
	if why != api.OK {
		return api.Heard{}, why
	}
	if v.Kind == api.VolSnap && writes(c.Op) {
		return api.Heard{}, api.ErrSnap
	}
	changes, told, why := files.Do(w.had[v.Root], c.Op)
	if why == api.OK && len(changes) > 0 {
		why = w.edit(v.Name, changes)
	}
	if why != api.OK {
		return api.Heard{}, why
	}
	return api.Heard{Told: told}, api.OK
}

func (w *atWork) edit(name string, changes []api.Change) api.Errno {
	h, table, why := vol.Edit(w.Heap, w.Table, name, changes)
	return w.swap(h, table, why)
}

func (w *atWork) sync() api.Errno {
	after, why := mount.Commit(w.Store)
	w.Store = after
	return why
}

func (w *atWork) paths(c api.Call) (api.Heard, api.Errno) {
	from, why := w.items(c.From)
	if why != api.OK {
		return api.Heard{}, why
	}
	to, why := w.items(c.Name)
	if why != api.OK {
		return api.Heard{}, why
	}
	deltas, why := delta.Paths(from, to)
	return api.Heard{Deltas: deltas}, why
}

func (w *atWork) send(c api.Call) (api.Heard, api.Errno) {
	from, why := w.base(c.From)
	if why != api.OK {
		return api.Heard{}, why
	}
	to, why := w.items(c.Name)
	if why != api.OK {
		return api.Heard{}, why
	}
	text, why := stream.Send(from, to)
	return api.Heard{Text: text}, why
}

func (w *atWork) take(c api.Call) api.Errno {
	from, why := w.base(c.From)
	if why != api.OK {
		return why
	}
	l, why := stream.Receive(from, c.Text)
	if why != api.OK {
		return why
	}
	h, table, why := vol.Add(w.Heap, w.Table, c.Name, c.From, l, w.generation())
	return w.swap(h, table, why)
}

// scrub tells which blocks in use the device reads otherwise than they were written.
func (w *atWork) scrub() (api.Heard, api.Errno) {
	read, why := dev.Reader(w.Dev)
	if why != api.OK {
		return api.Heard{}, why
	}
	// The system is right: so there is no error, and the device has each of these blocks.
	written, _ := mount.Written(w.Store)
	var blocks []uint32
	for _, b := range written {
		if data, _ := read(b.Num); data != b.Data {
			blocks = append(blocks, b.Num)
		}
	}
	return api.Heard{Blocks: blocks}, api.OK
}
