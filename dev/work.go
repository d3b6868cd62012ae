package dev

import (
	"cmp"
	"iter"
	"slices"

	"cambium/api"
)

// atWork is a device at work.
type atWork struct {
	api.Dev
}

// takenUp is a device at work whose lists are its own, so that they can be changed and answered.
func takenUp(d api.Dev) atWork {
	d.Blocks = append([]api.Block(nil), d.Blocks...)
	d.Waits = append([]api.Block(nil), d.Waits...)
	return atWork{d}
}

// whyNotHad tells why the block num can't have data.
func (w atWork) whyNotHad(num uint32, data string) api.Errno {
	switch {
	case num >= w.Size:
		return api.ErrRange
	case len(data) > api.BlockSize:
		return api.ErrLong
	}
	return api.OK
}

func (w atWork) whyNotWritten(num uint32, data string) api.Errno {
	if w.Down {
		return api.ErrDown
	}
	if why := w.whyNotHad(num, data); why != api.OK {
		return why
	}
	if len(w.Waits) == api.MaxWaits {
		return api.ErrFull
	}
	return api.OK
}

// write lets a block wait for its place, even if the power goes with it: a crash may keep it.
func (w *atWork) write(b api.Block) api.Errno {
	if why := w.whyNotWritten(b.Num, b.Data); why != api.OK {
		return why
	}
	w.Waits = append(w.Waits, api.Block{Num: b.Num, Data: cut(b.Data)})
	return w.burn()
}

// burn is what the fuse says to one more thing that is done.
func (w *atWork) burn() api.Errno {
	switch {
	case w.Fuse == 0:
		w.Down = true
		return api.ErrDown
	case w.Fuse > 0:
		w.Fuse--
	}
	return api.OK
}

// fromLast goes through the writes that wait from the last one on, each with its place among them.
func (w atWork) fromLast() iter.Seq2[int, api.Block] {
	return func(yield func(int, api.Block) bool) {
		for i := len(w.Waits) - 1; i >= 0; i-- {
			if !yield(i, w.Waits[i]) {
				return
			}
		}
	}
}

func (w atWork) read(num uint32) string {
	for _, b := range w.fromLast() {
		if b.Num == num {
			return b.Data
		}
	}
	at, found := slices.BinarySearchFunc(w.Blocks, api.Block{Num: num}, byNum)
	if !found {
		return ""
	}
	return w.Blocks[at].Data
}

// settle puts on the medium what waits and is kept; nothing waits then.
func (w *atWork) settle(kept func(i int) bool) {
	w.Blocks = laid(w.Blocks, w.newest(kept))
	w.Waits = nil
}

// newest has, by number, of each block the last one that waits and is kept: it lies over the elder ones.
func (w atWork) newest(kept func(i int) bool) []api.Block {
	var out []api.Block
	for i, b := range w.fromLast() {
		if kept(i) {
			out = append(out, b)
		}
	}
	slices.SortStableFunc(out, byNum)
	return slices.CompactFunc(out, sameNum)
}

// laid is the medium with other blocks laid over it; both rise by number.
func laid(medium, over []api.Block) []api.Block {
	var out []api.Block
	for _, b := range over {
		at, found := slices.BinarySearchFunc(medium, b, byNum)
		out = append(out, medium[:at]...)
		medium = medium[at:]
		if found {
			medium = medium[1:]
		}
		if b.Data != "" { // a block that has nothing is not listed
			out = append(out, b)
		}
	}
	return append(out, medium...)
}

func byNum(a, b api.Block) int {
	return cmp.Compare(a.Num, b.Num)
}

func sameNum(a, b api.Block) bool {
	return a.Num == b.Num
}
