package dirs

import (
	"slices"
	"strings"

	"cambium/api"
	"cambium/inode"
	"cambium/item"
	"cambium/pack"
)

const (
	inoWidth = 4 // bytes of the number that an entry has
	zeroByte = "\x00"
)

// look finds what a volume has, and whether it is right.
func (v *volume) look() {
	v.inodes = map[uint32]api.Inode{}
	v.entries = map[api.Key]uint32{}
	v.named = map[uint32]uint32{}
	v.above = map[uint32]uint32{}
	// What is asked here leans on what was asked ahead of it.
	v.right = item.Check(v.items) == api.OK && v.takeAll() && v.inodes[api.Root].Kind == api.FileDir &&
		!slices.ContainsFunc(v.parts, v.strays) && v.allUnderRoot()
}

// takeAll takes the items apart; false, if one is not right by itself.
func (v *volume) takeAll() bool {
	for _, x := range v.items {
		key, why := inode.Parse(x.Key)
		p := part{key, x.Val}
		if why != api.OK || !v.take(p) {
			return false
		}
		v.parts = append(v.parts, p)
	}
	return true
}

func (v *volume) take(p part) bool {
	switch p.Kind {
	case api.KeyInode:
		return v.takeInode(p)
	case api.KeyEntry:
		return v.takeEntry(p)
	case api.KeyChunk:
		return p.val != "" && len(p.val) <= api.ChunkSize && !strings.HasSuffix(p.val, zeroByte)
	}
	return len(p.val) <= api.MaxAttr
}

func (v *volume) takeInode(p part) bool {
	n, why := inode.Decode(p.val)
	v.inodes[p.Ino] = n
	return why == api.OK
}

func (v *volume) takeEntry(p part) bool {
	num, rest, why := pack.TakeNumber(p.val, inoWidth)
	ino := uint32(num)
	v.entries[p.Key] = ino
	v.named[ino]++
	v.above[ino] = p.Ino
	return why == api.OK && rest == "" && ino >= firstFree
}

// strays tells if a part does not go with its inode.
func (v *volume) strays(p part) bool {
	n, there := v.inodes[p.Ino]
	if !there {
		return true
	}
	switch p.Kind {
	case api.KeyInode:
		return p.Ino != api.Root && v.named[p.Ino] != n.Links
	case api.KeyEntry:
		_, there := v.inodes[v.entries[p.Key]]
		return n.Kind != api.FileDir || !there
	case api.KeyChunk:
		return n.Kind != api.FileData || int(n.Size) < int(p.Chunk)*api.ChunkSize+len(p.val)
	}
	return false
}

// allUnderRoot tells if one comes to Root from each directory, going up.
func (v *volume) allUnderRoot() bool {
	under := map[uint32]struct{}{api.Root: {}}
	for ino, n := range v.inodes {
		if n.Kind == api.FileDir && !v.climb(ino, under) {
			return false
		}
	}
	return true
}

// climb goes up from a directory to one that is known to be under Root, and notes those on the way; false, if there is none.
func (v *volume) climb(ino uint32, under map[uint32]struct{}) bool {
	var way []uint32
	for {
		if _, known := under[ino]; known {
			break
		}
		if len(way) == len(v.inodes) {
			// As many as there are: one has come round.
			return false
		}
		way = append(way, ino)
		ino = v.above[ino]
	}
	for _, dir := range way {
		under[dir] = struct{}{}
	}
	return true
}
