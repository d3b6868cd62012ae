package files

import (
	"cambium/api"
	"cambium/dirs"
	"cambium/inode"
	"cambium/item"
	"cambium/pack"
	"cambium/path"
)

const (
	inoWidth = 4 // bytes of the number that an entry has
	nothing  = 0 // what a place names at which there is no entry
)

// volume is a right one: what is asked of it at keys that are there is no error.
type volume struct {
	items []api.Item
}

// node is an inode with its number.
type node struct {
	api.Inode
	ino uint32
}

// place is where an entry stands in a directory, or would stand.
type place struct {
	dir uint32
	key string
	ino uint32 // what it names
}

// apart has the changes that are left when all of some are done, rising by key.
func (v volume) apart(changes ...api.Change) []api.Change {
	then, _ := item.Apply(v.items, changes)
	out, _ := item.Diff(v.items, then)
	return out
}

// node is an inode that is there.
func (v volume) node(ino uint32) node {
	val, _ := item.Get(v.items, keyOf(ino))
	n, _ := inode.Decode(val)
	return node{Inode: n, ino: ino}
}

// led is what a path leads to.
func (v volume) led(p string, follow bool) (node, api.Errno) {
	names, why := path.Split(p)
	if why != api.OK {
		return node{}, why
	}
	return v.walked(names, follow)
}

// notDir is what a path leads to, if it is no directory.
func (v volume) notDir(p string, follow bool) (node, api.Errno) {
	n, why := v.led(p, follow)
	if why == api.OK && n.Kind == api.FileDir {
		return node{}, api.ErrDir
	}
	return n, why
}

// place is that of a path's last name.
func (v volume) place(p string) (place, api.Errno) {
	ahead, name, why := path.Last(p)
	if why != api.OK {
		return place{}, why
	}
	dir, why := v.walked(ahead, true)
	if why != api.OK {
		return place{}, why
	}
	if dir.Kind != api.FileDir {
		return place{}, api.ErrFile
	}
	key, _ := inode.Key(api.Key{Kind: api.KeyEntry, Ino: dir.ino, Name: name})
	return place{dir: dir.ino, key: key, ino: v.entry(key)}, api.OK
}

// named is a path's place, if it names something.
func (v volume) named(p string) (place, api.Errno) {
	at, why := v.place(p)
	if why == api.OK && at.ino == nothing {
		return place{}, api.ErrNone
	}
	return at, why
}

// free is a path's place, if it names nothing.
func (v volume) free(p string) (place, api.Errno) {
	at, why := v.place(p)
	if why == api.OK && at.ino != nothing {
		return place{}, api.ErrTwice
	}
	return at, why
}

func (v volume) walked(names []string, follow bool) (node, api.Errno) {
	ino, why := dirs.Walk(v.items, names, follow)
	if why != api.OK {
		return node{}, why
	}
	return v.node(ino), api.OK
}

// entry is what is named by an entry's key.
func (v volume) entry(key string) uint32 {
	val, why := item.Get(v.items, key)
	if why != api.OK {
		return nothing
	}
	ino, _, _ := pack.TakeNumber(val, inoWidth)
	return uint32(ino)
}

// has is what is kept by an inode's keys of a kind.
func (v volume) has(kind api.KeyKind, ino uint32) []api.Item {
	l, _ := item.Under(v.items, inode.Prefix(kind, ino))
	return l
}

// under tells if a directory is another inode, or below it.
func (v volume) under(dir, top uint32) bool {
	above := v.above()
	for dir != top && dir != api.Root {
		dir = above[dir]
	}
	return dir == top
}

// above tells which directory has an entry of each inode: of a directory there is but one.
func (v volume) above() map[uint32]uint32 {
	above := map[uint32]uint32{}
	for _, x := range v.items {
		if k, _ := inode.Parse(x.Key); k.Kind == api.KeyEntry {
			above[v.entry(x.Key)] = k.Ino
		}
	}
	return above
}

// keyOf is that by which an inode is kept.
func keyOf(ino uint32) string {
	key, _ := inode.Key(api.Key{Kind: api.KeyInode, Ino: ino})
	return key
}
