package node

import (
	"cambium/api"
	"cambium/item"
)

const (
	maxEntries = 255 // items or kids of a node: as many as a byte can tell
	firstNum   = 2   // the least block that is no superblock's
	noRoot     = 0   // the root of a volume that has nothing
)

// right tells if a node is as the chapter says, but for how many bytes it has.
func right(n api.Node) bool {
	items, kids, volumes := len(n.Items), len(n.Kids), len(n.Volumes)
	switch n.Kind {
	case api.NodeLeaf:
		return kids == 0 && volumes == 0 && rightCount(items) && item.Check(n.Items) == api.OK
	case api.NodeBranch:
		return items == 0 && volumes == 0 && rightCount(kids) && rightKids(n.Kids)
	case api.NodeTable:
		return items == 0 && kids == 0 && volumes <= api.MaxVolumes && rightVolumes(n.Volumes)
	}
	return false
}

func rightCount(entries int) bool {
	return entries >= 1 && entries <= maxEntries
}

func rightKids(kids []api.Kid) bool {
	for i, k := range kids {
		if k.Key == "" || len(k.Key) > api.MaxKey || !rightNum(k.Num) {
			return false
		}
		if i > 0 && k.Key <= kids[i-1].Key {
			return false
		}
	}
	return true
}

func rightVolumes(volumes []api.Volume) bool {
	for i, v := range volumes {
		if !rightVolume(v) {
			return false
		}
		if i > 0 && v.Name <= volumes[i-1].Name {
			return false
		}
	}
	return true
}

func rightVolume(v api.Volume) bool {
	return v.Name != "" && len(v.Name) <= api.MaxVolume && len(v.From) <= api.MaxVolume &&
		v.Kind > api.VolNone && v.Kind < api.VolCount && rightRoot(v)
}

func rightRoot(v api.Volume) bool {
	if v.Root == noRoot {
		return v.Hash == [hashSize]byte{}
	}
	return rightNum(v.Root)
}

func rightNum(num uint32) bool {
	return num >= firstNum && num < api.MaxBlocks
}
