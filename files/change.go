package files

import (
	"cambium/api"
	"cambium/data"
	"cambium/dirs"
	"cambium/inode"
	"cambium/pack"
)

// create makes an inode that a path names.
func (v volume) create(p string, n api.Inode) ([]api.Change, api.Errno) {
	at, why := v.free(p)
	if why != api.OK {
		return nil, why
	}
	// Of a link only: others are right as they are made.
	if why := inode.Check(n); why != api.OK {
		return nil, why
	}
	ino, _ := dirs.Next(v.items)
	return []api.Change{kept(node{Inode: n, ino: ino}), at.names(ino)}, api.OK
}

func (v volume) hard(op api.Op) ([]api.Change, api.Errno) {
	n, why := v.notDir(op.Path, false)
	if why != api.OK {
		return nil, why
	}
	if n.Links >= api.MaxHard {
		return nil, api.ErrRange
	}
	to, why := v.free(op.To)
	if why != api.OK {
		return nil, why
	}
	n.Links++
	return []api.Change{kept(n), to.names(n.ino)}, api.OK
}

func (v volume) write(op api.Op) ([]api.Change, api.Errno) {
	n, why := v.notDir(op.Path, true)
	if why != api.OK {
		return nil, why
	}
	changes, why := data.Write(v.items, n.ino, op.Off, op.Data)
	if why != api.OK {
		return nil, why
	}
	if op.Data != "" {
		n.Size = max(n.Size, op.Off+uint32(len(op.Data)))
	}
	return append(changes, kept(n)), api.OK
}

func (v volume) cut(op api.Op) ([]api.Change, api.Errno) {
	n, why := v.notDir(op.Path, true)
	if why != api.OK {
		return nil, why
	}
	changes, why := data.Cut(v.items, n.ino, op.N)
	if why != api.OK {
		return nil, why
	}
	n.Size = op.N
	return append(changes, kept(n)), api.OK
}

func (v volume) rename(op api.Op) ([]api.Change, api.Errno) {
	from, why := v.named(op.Path)
	if why != api.OK {
		return nil, why
	}
	to, why := v.place(op.To)
	if why != api.OK {
		return nil, why
	}
	if v.under(to.dir, from.ino) {
		return nil, api.ErrState
	}
	if to.ino == from.ino {
		return nil, api.OK
	}
	moved := []api.Change{from.isFree(), to.names(from.ino)}
	if to.ino == nothing {
		return moved, api.OK
	}
	if why := v.replaces(from.ino, to.ino); why != api.OK {
		return nil, why
	}
	return append(v.letGo(to), moved...), api.OK
}

// replaces tells why an inode may not have another one's name.
func (v volume) replaces(ino, was uint32) api.Errno {
	dir := v.node(ino).Kind == api.FileDir
	wasDir := v.node(was).Kind == api.FileDir
	switch {
	case dir && !wasDir:
		return api.ErrFile
	case !dir && wasDir:
		return api.ErrDir
	case wasDir && v.busy(was):
		return api.ErrBusy
	}
	return api.OK
}

func (v volume) unlink(op api.Op) ([]api.Change, api.Errno) {
	at, why := v.named(op.Path)
	if why != api.OK {
		return nil, why
	}
	if v.node(at.ino).Kind == api.FileDir {
		return nil, api.ErrDir
	}
	return v.letGo(at), api.OK
}

func (v volume) rmdir(op api.Op) ([]api.Change, api.Errno) {
	at, why := v.named(op.Path)
	if why != api.OK {
		return nil, why
	}
	if v.node(at.ino).Kind != api.FileDir {
		return nil, api.ErrFile
	}
	if v.busy(at.ino) {
		return nil, api.ErrBusy
	}
	return v.letGo(at), api.OK
}

func (v volume) mode(op api.Op) ([]api.Change, api.Errno) {
	n, why := v.led(op.Path, true)
	if why != api.OK {
		return nil, why
	}
	n.Mode = op.Mode
	return []api.Change{kept(n)}, api.OK
}

// busy tells if a directory has something.
func (v volume) busy(dir uint32) bool {
	return len(v.has(api.KeyEntry, dir)) > 0
}

// letGo lets go of the name at a place. (A directory has but one.)
func (v volume) letGo(at place) []api.Change {
	n := v.node(at.ino)
	n.Links--
	if n.Links > 0 {
		return []api.Change{at.isFree(), kept(n)}
	}
	return append(v.gone(at.ino), at.isFree())
}

// gone lets go of all that is kept by an inode's number.
func (v volume) gone(ino uint32) []api.Change {
	var out []api.Change
	// From KeyInode on: what begins as keys of no kind do, with nothing, is all that there is.
	for i := range api.KeyCount - api.KeyInode {
		for _, x := range v.has(api.KeyInode+i, ino) {
			out = append(out, api.Change{Key: x.Key})
		}
	}
	return out
}

// kept is the change behind which there is a node.
func kept(n node) api.Change {
	val, _ := inode.Encode(n.Inode)
	return api.Change{Key: keyOf(n.ino), Has: true, Val: val}
}

// names is the change behind which a place names an inode.
func (p place) names(ino uint32) api.Change {
	val, _ := pack.Number(uint64(ino), inoWidth)
	return api.Change{Key: p.key, Has: true, Val: val}
}

// isFree is the change behind which a place names nothing.
func (p place) isFree() api.Change {
	return api.Change{Key: p.key}
}
