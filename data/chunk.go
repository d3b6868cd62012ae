package data

import (
	"cmp"
	"slices"
	"strings"

	"cambium/api"
	"cambium/inode"
	"cambium/item"
)

const zeroByte = "\x00"

// chunk is one of an inode's.
type chunk struct {
	num   uint32
	key   string
	there bool   // it is kept
	val   string // what is kept, with what does not count
}

// from is the place of a chunk's first byte.
func (c chunk) from() int {
	return int(c.num) * api.ChunkSize
}

// bytes are those that count.
func (c chunk) bytes() string {
	return c.val[:min(len(c.val), api.ChunkSize)]
}

// asKept is the change behind which a chunk is as it is now.
func (c chunk) asKept() api.Change {
	return api.Change{Key: c.key, Has: c.there, Val: c.val}
}

// keep is the change behind which a chunk has those bytes.
func keep(key, bytes string) api.Change {
	val := strings.TrimRight(bytes, zeroByte)
	return api.Change{Key: key, Has: val != "", Val: val}
}

// chunksOf has the chunks of an inode that are kept, rising.
func chunksOf(l []api.Item, ino uint32) ([]chunk, api.Errno) {
	under, why := item.Under(l, inode.Prefix(api.KeyChunk, ino))
	if why != api.OK {
		return nil, why
	}
	if ino == 0 {
		return nil, api.ErrRange
	}
	var out []chunk
	for _, x := range under {
		// Any list may be handed in: a key may begin as a chunk's does, and be none.
		if k, why := inode.Parse(x.Key); why == api.OK {
			out = append(out, chunk{num: k.Chunk, key: x.Key, there: true, val: x.Val})
		}
	}
	return out, api.OK
}

// find is the chunk of a number, be it among those that are kept or not.
func find(kept []chunk, ino, num uint32) chunk {
	at, found := slices.BinarySearchFunc(kept, num, func(c chunk, num uint32) int {
		return cmp.Compare(c.num, num)
	})
	if found {
		return kept[at]
	}
	// Neither the inode nor the chunk is out of range here.
	key, _ := inode.Key(api.Key{Kind: api.KeyChunk, Ino: ino, Chunk: num})
	return chunk{num: num, key: key}
}
