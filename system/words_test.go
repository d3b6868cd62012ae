package system_test

import (
	"slices"

	"cambium/api"
	"cambium/delta"
	"cambium/dev"
	"cambium/files"
	"cambium/mount"
	"cambium/node"
	"cambium/stream"
	"cambium/super"
	"cambium/vol"
)

// worded is what a right system answers, as the chapter says it word by word.
func worded(s api.Store, c api.Call) answer {
	refused := func(why api.Errno) answer { return answer{store: s, why: why} }
	swapped := func(h api.Heap, table api.Kid, why api.Errno) answer {
		if why != api.OK {
			return refused(why)
		}
		after, why := mount.Swap(s, h, table)
		return answer{store: after, why: why}
	}
	gen := uint64(0)
	for slot, valid := range s.Valid {
		if valid && s.Slots[slot].Gen > gen {
			gen = s.Slots[slot].Gen
		}
	}
	switch c.Kind {
	case api.CallVol:
		return swapped(vol.Do(s.Heap, s.Table, c.Vol, gen))
	case api.CallFile:
		return wordedFile(s, c, swapped)
	case api.CallSync:
		after, why := mount.Commit(s)
		return answer{store: after, why: why}
	case api.CallList:
		vols, _ := vol.List(s.Heap, s.Table)
		return answer{store: s, heard: api.Heard{Volumes: vols}}
	case api.CallLog:
		names, why := vol.Log(s.Heap, s.Table, c.Name)
		return answer{store: s, heard: api.Heard{Names: names}, why: why}
	case api.CallScrub:
		return wordedScrub(s)
	case api.CallPaths, api.CallSend, api.CallTake:
	default:
		return refused(api.ErrForm)
	}
	var from []api.Item
	if c.Kind == api.CallPaths || c.From != "" {
		var why api.Errno
		if from, why = vol.Items(s.Heap, s.Table, c.From); why != api.OK {
			return refused(why)
		}
	}
	if c.Kind == api.CallTake {
		l, why := stream.Receive(from, c.Text)
		if why != api.OK {
			return refused(why)
		}
		return swapped(vol.Add(s.Heap, s.Table, c.Name, c.From, l, gen))
	}
	to, why := vol.Items(s.Heap, s.Table, c.Name)
	if why != api.OK {
		return refused(why)
	}
	if c.Kind == api.CallSend {
		text, why := stream.Send(from, to)
		return answer{store: s, heard: api.Heard{Text: text}, why: why}
	}
	deltas, why := delta.Paths(from, to)
	return answer{store: s, heard: api.Heard{Deltas: deltas}, why: why}
}

func wordedFile(s api.Store, c api.Call, swapped func(h api.Heap, table api.Kid, why api.Errno) answer) answer {
	vols, _ := vol.List(s.Heap, s.Table)
	at := slices.IndexFunc(vols, func(v api.Volume) bool { return v.Name == c.Name })
	if at < 0 {
		return answer{store: s, why: api.ErrNone}
	}
	tells := []api.OpKind{api.OpRead, api.OpStat, api.OpList, api.OpGetAttr}
	if vols[at].Kind == api.VolSnap && !slices.Contains(tells, c.Op.Kind) {
		return answer{store: s, why: api.ErrSnap}
	}
	l, _ := vol.Items(s.Heap, s.Table, c.Name)
	changes, told, why := files.Do(l, c.Op)
	if why != api.OK {
		return answer{store: s, why: why}
	}
	if len(changes) == 0 {
		return answer{store: s, heard: api.Heard{Told: told}}
	}
	a := swapped(vol.Edit(s.Heap, s.Table, c.Name, changes))
	if a.why == api.OK {
		a.heard = api.Heard{Told: told}
	}
	return a
}

// dataOf is what each cell of a heap has.
func dataOf(h api.Heap) map[uint32]string {
	out := map[uint32]string{}
	for _, c := range h.Cells {
		out[c.Num] = c.Data
	}
	return out
}

// inUse is what the blocks have that a system's superblocks are, or lead to.
func inUse(s api.Store) map[uint32]string {
	cells, out := dataOf(s.Heap), map[uint32]string{}
	var look func(num uint32)
	look = func(num uint32) {
		out[num] = cells[num]
		n, _ := node.Decode(cells[num])
		for _, kid := range node.Kids(n) {
			look(kid)
		}
	}
	for slot, valid := range s.Valid {
		if valid {
			out[uint32(slot)], _ = super.Encode(s.Slots[slot])
			look(s.Slots[slot].Table)
		}
	}
	return out
}

func wordedScrub(s api.Store) answer {
	if s.Dev.Down {
		return answer{store: s, why: api.ErrDown}
	}
	used := inUse(s)
	var blocks []uint32
	for num := range s.Dev.Size {
		want, use := used[num]
		if data, _ := dev.Read(s.Dev, num); use && data != want {
			blocks = append(blocks, num)
		}
	}
	return answer{store: s, heard: api.Heard{Blocks: blocks}}
}
