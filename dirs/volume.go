package dirs

import (
	"sync"

	"cambium/api"
	"cambium/path"
)

const firstFree = api.Root + 1 // the least number of an inode that has a name

// volume is one at work: what it has is known when it was checked.
type volume struct {
	items   []api.Item
	once    sync.Once
	right   bool
	parts   []part
	inodes  map[uint32]api.Inode
	entries map[api.Key]uint32 // which inode each of them names
	named   map[uint32]uint32  // how many entries name an inode
	above   map[uint32]uint32  // what has an entry of an inode: of a directory there is but one
}

// part is an item whose key is taken apart.
type part struct {
	api.Key
	val string
}

// check looks through a volume when it is first asked for.
func (v *volume) check() api.Errno {
	v.once.Do(v.look)
	if !v.right {
		return api.ErrBad
	}
	return api.OK
}

func (v *volume) get(ino uint32) (api.Inode, api.Errno) {
	if why := v.check(); why != api.OK {
		return api.Inode{}, why
	}
	n, there := v.inodes[ino]
	if !there {
		return api.Inode{}, api.ErrNone
	}
	return n, api.OK
}

func (v *volume) walk(names []string, follow bool) (uint32, api.Errno) {
	at, links := uint32(api.Root), 0
	for len(names) > 0 {
		if v.inodes[at].Kind != api.FileDir {
			return 0, api.ErrFile
		}
		ino, there := v.entries[api.Key{Kind: api.KeyEntry, Ino: at, Name: names[0]}]
		if !there {
			return 0, api.ErrNone
		}
		at, names = ino, names[1:]
		n := v.inodes[at]
		if n.Kind != api.FileLink || len(names) == 0 && !follow {
			continue
		}
		if links == api.MaxLinks {
			return 0, api.ErrLoop
		}
		target, why := path.Split(n.Target)
		if why != api.OK {
			return 0, why
		}
		links++
		at, names = api.Root, append(target, names...)
	}
	return at, api.OK
}

// list has the entries of a directory, rising by name, as its items do.
func (v *volume) list(dir uint32) []api.Entry {
	var out []api.Entry
	for _, p := range v.parts {
		if p.Kind == api.KeyEntry && p.Ino == dir {
			ino := v.entries[p.Key]
			out = append(out, api.Entry{Name: p.Name, Ino: ino, Kind: v.inodes[ino].Kind})
		}
	}
	return out
}

func (v *volume) next() uint32 {
	ino := uint32(firstFree)
	for {
		if _, there := v.inodes[ino]; !there {
			return ino
		}
		ino++
	}
}
