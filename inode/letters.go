package inode

import (
	"strings"
	"sync"

	"cambium/api"
)

// letters are those with which the bytes of keys begin.
type letters struct {
	once sync.Once
	made [api.KeyCount]string // by kind, when one is first asked for; a kind that is none has no letter
}

// of is the letter of a kind: empty, if there is no such kind.
func (l *letters) of(kind api.KeyKind) string {
	l.once.Do(l.fill)
	if kind >= api.KeyCount {
		return ""
	}
	return l.made[kind]
}

func (l *letters) fill() {
	l.made = [api.KeyCount]string{
		api.KeyInode: "i",
		api.KeyEntry: "d",
		api.KeyChunk: "c",
		api.KeyAttr:  "x",
	}
}

// take takes a kind's letter from the beginning of bytes, and tells what is behind it.
func (l *letters) take(s string) (api.KeyKind, string) {
	for kind := api.KeyInode; kind < api.KeyCount; kind++ {
		if rest, found := strings.CutPrefix(s, l.of(kind)); found {
			return kind, rest
		}
	}
	return api.KeyNone, s
}
