package vol

import (
	"slices"

	"cambium/api"
	"cambium/hash"
	"cambium/heap"
)

// readTable has the volumes of a table, if there is such a one.
func readTable(h api.Heap, table api.Kid) ([]api.Volume, api.Errno) {
	n, why := heap.Get(h, table.Num)
	if why != api.OK {
		return nil, why
	}
	if n.Kind != api.NodeTable || table.Key != "" || table.Hash != hashOf(h, table.Num) {
		return nil, api.ErrBad
	}
	return n.Volumes, api.OK
}

// hashOf is that of a cell that is there.
func hashOf(h api.Heap, num uint32) [32]byte {
	at := slices.IndexFunc(h.Cells, func(c api.Cell) bool { return c.Num == num })
	return hash.Sum(h.Cells[at].Data)
}

// find is the first volume that is as it is told; false, if there is none.
func find(vols []api.Volume, is func(api.Volume) bool) (api.Volume, bool) {
	at := slices.IndexFunc(vols, is)
	if at < 0 {
		return api.Volume{}, false
	}
	return vols[at], true
}

// called tells of a volume if it has that name.
func called(name string) func(api.Volume) bool {
	return func(v api.Volume) bool { return v.Name == name }
}

// lineage is a name, what the volume of that name was made of, and so on, as long as there are such volumes, each once.
func lineage(vols []api.Volume, name string) []string {
	var names []string
	for !slices.Contains(names, name) {
		v, found := find(vols, called(name))
		if !found {
			break
		}
		names = append(names, name)
		name = v.From
	}
	return names
}

// having is a volume with another tree.
func having(v api.Volume, root api.Kid) api.Volume {
	v.Root, v.Hash = root.Num, root.Hash
	return v
}
