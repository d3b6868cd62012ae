package files

import (
	"cambium/api"
	"cambium/data"
	"cambium/dirs"
	"cambium/item"
)

func (v volume) read(op api.Op) (api.Told, api.Errno) {
	n, why := v.notDir(op.Path, true)
	if why != api.OK {
		return api.Told{}, why
	}
	text, why := data.Read(v.items, n.ino, n.Size, op.Off, op.N)
	return api.Told{Text: text}, why
}

func (v volume) stat(op api.Op) (api.Told, api.Errno) {
	n, why := v.led(op.Path, op.N == 0)
	return api.Told{Ino: n.ino, Inode: n.Inode}, why
}

func (v volume) list(op api.Op) (api.Told, api.Errno) {
	n, why := v.led(op.Path, true)
	if why != api.OK {
		return api.Told{}, why
	}
	entries, why := dirs.List(v.items, n.ino)
	return api.Told{Entries: entries}, why
}

func (v volume) getAttr(op api.Op) (api.Told, api.Errno) {
	key, why := v.attrKey(op)
	if why != api.OK {
		return api.Told{}, why
	}
	text, why := item.Get(v.items, key)
	return api.Told{Text: text}, why
}
