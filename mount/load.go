package mount

import (
	"maps"
	"slices"

	"cambium/api"
	"cambium/super"
)

// wholeLeaders are the superblocks of a device whose blocks are all there, the newest one first.
func wholeLeaders(size uint32, read reader) []leader {
	var data [slots]string
	for slot := range data {
		// Each device has these blocks, and its power is on: so there is no error.
		data[slot], _ = read(uint32(slot))
	}
	var whole []leader
	for _, s := range super.Order(data[0], data[1]) {
		l := lead(s, read)
		if s.Size != size {
			continue
		}
		if _, there := l.blocks(); there {
			whole = append(whole, l)
		}
	}
	return whole
}

// loaded is the store of a device to which superblocks lead, the newest one first.
func loaded(d api.Dev, leaders []leader) api.Store {
	s := api.Store{Dev: d, Table: tableOf(leaders[0].Super)}
	for _, l := range leaders {
		slot := super.Slot(l.Super)
		s.Slots[slot], s.Valid[slot] = l.Super, true
	}
	s.Heap = api.Heap{Size: d.Size, Cells: cellsOf(leaders)}
	refs := refsIn(s)
	for i, c := range s.Heap.Cells {
		s.Heap.Cells[i].Refs = refs[c.Num]
	}
	return s
}

// cellsOf are all blocks of superblocks, by number, without their Refs.
func cellsOf(leaders []leader) []api.Cell {
	all := map[uint32]block{}
	for _, l := range leaders {
		found, _ := l.blocks()
		maps.Copy(all, found)
	}
	var cells []api.Cell
	for _, num := range slices.Sorted(maps.Keys(all)) {
		cells = append(cells, api.Cell{Num: num, Data: all[num].data})
	}
	return cells
}

// split has a right store's cells by number: those to which one of its superblocks leads, and the others.
func split(s api.Store) (led, others []api.Block) {
	var leaders []leader
	for slot, valid := range s.Valid {
		if valid {
			leaders = append(leaders, lead(s.Slots[slot], cellReader(s.Heap.Cells)))
		}
	}
	for _, c := range s.Heap.Cells {
		b := api.Block{Num: c.Num, Data: c.Data}
		leads := func(l leader) bool { return l.leadsTo(c.Num) }
		if slices.ContainsFunc(leaders, leads) {
			led = append(led, b)
		} else {
			others = append(others, b)
		}
	}
	return led, others
}
