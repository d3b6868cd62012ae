package files

import (
	"cambium/api"
	"cambium/inode"
	"cambium/item"
	"cambium/path"
)

// attrKey is that of the attribute To of what Path leads to.
func (v volume) attrKey(op api.Op) (string, api.Errno) {
	n, why := v.led(op.Path, true)
	if why != api.OK {
		return "", why
	}
	if !path.Name(op.To) {
		return "", api.ErrName
	}
	return inode.Key(api.Key{Kind: api.KeyAttr, Ino: n.ino, Name: op.To})
}

func (v volume) setAttr(op api.Op) ([]api.Change, api.Errno) {
	key, why := v.attrKey(op)
	if why != api.OK {
		return nil, why
	}
	if len(op.Data) > api.MaxAttr {
		return nil, api.ErrLong
	}
	return []api.Change{{Key: key, Has: true, Val: op.Data}}, api.OK
}

func (v volume) dropAttr(op api.Op) ([]api.Change, api.Errno) {
	key, why := v.attrKey(op)
	if why != api.OK {
		return nil, why
	}
	if _, why := item.Get(v.items, key); why != api.OK {
		return nil, why
	}
	return []api.Change{{Key: key}}, api.OK
}
