package inode

import (
	"cambium/api"
	"cambium/pack"
)

const (
	kindWidth  = 1
	modeWidth  = 2
	linksWidth = 4
	sizeWidth  = 4
	inoWidth   = 4
	chunkWidth = 4
)

// writtenInode is the bytes of a right inode.
func writtenInode(n api.Inode) string {
	// A right Target is never too long for a text.
	target, _ := pack.Text(n.Target)
	return number(uint64(n.Kind), kindWidth) + number(uint64(n.Mode), modeWidth) +
		number(uint64(n.Links), linksWidth) + number(uint64(n.Size), sizeWidth) + target
}

// takenInode is the inode whose fields stand in s where one's do, be they one's or not.
func takenInode(s string) api.Inode {
	kind, rest := takeNumber(s, kindWidth)
	mode, rest := takeNumber(rest, modeWidth)
	links, rest := takeNumber(rest, linksWidth)
	size, rest := takeNumber(rest, sizeWidth)
	target, _, _ := pack.TakeText(rest)
	return api.Inode{
		Kind:   api.FileKind(kind),
		Mode:   uint16(mode),
		Links:  uint32(links),
		Size:   uint32(size),
		Target: target,
	}
}

// writtenKey is the bytes of a right key.
func writtenKey(k api.Key) string {
	s := Prefix(k.Kind, k.Ino) + k.Name
	if k.Kind == api.KeyChunk {
		s += number(uint64(k.Chunk), chunkWidth)
	}
	return s
}

// takenKey is the key whose fields stand in s where one's do, be they one's or not.
func takenKey(s string) api.Key {
	var l letters
	kind, rest := l.take(s)
	ino, rest := takeNumber(rest, inoWidth)
	k := api.Key{Kind: kind, Ino: uint32(ino)}
	switch kind {
	case api.KeyEntry, api.KeyAttr:
		k.Name = rest
	case api.KeyChunk:
		chunk, _ := takeNumber(rest, chunkWidth)
		k.Chunk = uint32(chunk)
	}
	return k
}

// number leaves the error out: a field is never too great for its width.
func number(n uint64, width int) string {
	s, _ := pack.Number(n, width)
	return s
}

// takeNumber is 0, with nothing behind it, if s ends too soon.
func takeNumber(s string, width int) (uint64, string) {
	n, rest, _ := pack.TakeNumber(s, width)
	return n, rest
}
