package delta

import (
	"slices"
	"strings"

	"cambium/api"
	"cambium/data"
	"cambium/inode"
)

const slash = "/"

// volume is a right one taken apart: of each inode what is kept by its number.
type volume struct {
	inodes  map[uint32]api.Inode
	entries map[uint32][]way // each with the name alone as its path
	chunks  map[uint32][]api.Item
	attrs   map[uint32][]api.Item // by name
}

// way is one along entries, and the inode to which one comes.
type way struct {
	path string
	ino  uint32
}

// seen has what is seen of a right volume.
func seen(l []api.Item) []api.Seen {
	v := takenApart(l)
	at := v.seenAt()
	var out []api.Seen
	for _, w := range v.ways() {
		s := at[w.ino]
		s.Path = w.path
		// An inode may have many names: each has its attributes for itself.
		s.Attrs = slices.Clone(s.Attrs)
		out = append(out, s)
	}
	slices.SortFunc(out, func(a, b api.Seen) int {
		return strings.Compare(a.Path, b.Path)
	})
	return out
}

func takenApart(l []api.Item) volume {
	v := volume{
		inodes:  map[uint32]api.Inode{},
		entries: map[uint32][]way{},
		chunks:  map[uint32][]api.Item{},
		attrs:   map[uint32][]api.Item{},
	}
	for _, x := range l {
		// The volume is right, and so is each key.
		k, _ := inode.Parse(x.Key)
		v.take(k, x)
	}
	return v
}

func (v *volume) take(k api.Key, x api.Item) {
	switch k.Kind {
	case api.KeyInode:
		n, _ := inode.Decode(x.Val)
		v.inodes[k.Ino] = n
	case api.KeyEntry:
		v.entries[k.Ino] = append(v.entries[k.Ino], way{k.Name, named(x.Val)})
	case api.KeyChunk:
		v.chunks[k.Ino] = append(v.chunks[k.Ino], x)
	case api.KeyAttr:
		v.attrs[k.Ino] = append(v.attrs[k.Ino], api.Item{Key: k.Name, Val: x.Val})
	}
}

// named is the number of the inode that an entry names. (To ask dirs.List for it would look through the volume once for each directory.)
func named(val string) uint32 {
	var ino uint32
	for i := range len(val) {
		ino = ino<<8 | uint32(val[i])
	}
	return ino
}

// seenAt is what is seen of each inode, at whatever path.
func (v *volume) seenAt() map[uint32]api.Seen {
	out := map[uint32]api.Seen{}
	for ino, n := range v.inodes {
		out[ino] = api.Seen{Kind: n.Kind, Mode: n.Mode, Text: v.text(ino, n), Attrs: v.attrs[ino]}
	}
	return out
}

func (v *volume) text(ino uint32, n api.Inode) string {
	switch n.Kind {
	case api.FileData:
		// The inode's chunks alone are a right list, and a right inode's Size is in range.
		bytes, _ := data.Read(v.chunks[ino], ino, n.Size, 0, n.Size)
		return bytes
	case api.FileLink:
		return n.Target
	}
	return ""
}

// ways has each one from Root on, and Root. They end: a directory of a right volume is not below itself.
func (v *volume) ways() []way {
	out := []way{{slash, api.Root}}
	for i := 0; i < len(out); i++ {
		ahead := strings.TrimSuffix(out[i].path, slash) // of Root nothing: no other path ends so
		for _, e := range v.entries[out[i].ino] {
			out = append(out, way{ahead + slash + e.path, e.ino})
		}
	}
	return out
}
