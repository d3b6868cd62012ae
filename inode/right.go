package inode

import (
	"strings"

	"cambium/api"
	"cambium/path"
)

const (
	zeroByte = "\x00"
	chunks   = api.MaxFile / api.ChunkSize // chunks of a file, at most
)

func rightInode(n api.Inode) bool {
	switch n.Kind {
	case api.FileDir:
		return n.Links == 1 && n.Size == 0 && n.Target == ""
	case api.FileData:
		return n.Links >= 1 && n.Size <= api.MaxFile && n.Target == ""
	case api.FileLink:
		return n.Links >= 1 && rightTarget(n.Target) && int(n.Size) == len(n.Target)
	}
	return false
}

func rightTarget(s string) bool {
	return s != "" && len(s) <= api.MaxTarget && !strings.Contains(s, zeroByte)
}

func rightKey(k api.Key) bool {
	if k.Ino == 0 {
		return false
	}
	switch k.Kind {
	case api.KeyInode:
		return k.Name == "" && k.Chunk == 0
	case api.KeyEntry, api.KeyAttr:
		return path.Name(k.Name) && k.Chunk == 0
	case api.KeyChunk:
		return k.Name == "" && k.Chunk < chunks
	}
	return false
}
