package world

import (
	"cambium/api"
	"cambium/dev"
	"cambium/system"
)

// atWork is a world at work, in memory of its own.
type atWork struct {
	api.World
}

// bare tells if a store has nothing but a device.
func bare(s api.Store) bool {
	return s.Heap.Size == 0 && len(s.Heap.Cells) == 0 &&
		s.Slots == [2]api.Super{} && s.Valid == [2]bool{} && s.Table == api.Kid{}
}

// do has a step happen; with an error the world is as it was, but as the step says.
func (w *atWork) do(s api.WorldStep) (api.Heard, api.Errno) {
	switch s.Kind {
	case api.WorldCall:
		return w.call(s.Call)
	case api.WorldFuse:
		w.Store.Dev.Fuse = max(s.N, -1)
		return api.Heard{}, api.OK
	case api.WorldCrash:
		w.crash(s.Keep)
		return api.Heard{}, api.OK
	case api.WorldMount:
		return api.Heard{}, w.mount()
	case api.WorldSpoil:
		return api.Heard{}, w.spoil(s.Num, s.Data)
	}
	return api.Heard{}, api.ErrForm
}

func (w *atWork) call(c api.Call) (api.Heard, api.Errno) {
	if !w.Up {
		return api.Heard{}, api.ErrDown
	}
	after, heard, why := system.Do(w.Store, c)
	w.Store = after
	if c.Kind == api.CallSync && why != api.OK && why != api.ErrRange {
		w.Up = false
	}
	return heard, why
}

// crash leaves nothing but the device.
func (w *atWork) crash(keep []bool) {
	// The world is right, and so is its device: so there is no error.
	d, _ := dev.Crash(w.Store.Dev, keep)
	w.World = api.World{Store: api.Store{Dev: d}}
}

func (w *atWork) mount() api.Errno {
	switch {
	case w.Up:
		return api.ErrState
	case w.Store.Dev.Down:
		return api.ErrDown
	}
	after, why := system.Open(w.Store.Dev)
	w.Store, w.Up = after, why == api.OK
	return why
}

func (w *atWork) spoil(num uint32, data string) api.Errno {
	d, why := dev.Spoil(w.Store.Dev, num, data)
	w.Store.Dev = d
	return why
}
