package dev_test

import (
	"math"
	"slices"
	"strings"
	"testing"

	"cambium/api"
	"cambium/dev"
)

// 3.1: a Reader reads each block as Read does, whatever waits, and goes on to do so.
func TestReader(t *testing.T) {
	for i, d := range append(rightDevices(), sample()) {
		d.Down = false
		d.Size = min(d.Size, 300) // else there is much to read
		d.Blocks = slices.DeleteFunc(slices.Clone(d.Blocks), func(b api.Block) bool { return b.Num >= d.Size })
		read, why := dev.Reader(d)
		if why != api.OK {
			t.Errorf("%d: Reader: error %d", i, why)
			continue
		}
		for num := range d.Size + 2 {
			want, wantWhy := dev.Read(d, num)
			if s, why := read(num); s != want || why != wantWhy {
				t.Errorf("%d: block %d: %q, error %d, not %q, error %d", i, num, s, why, want, wantWhy)
			}
		}
		if s, why := read(math.MaxUint32); s != "" || why != api.ErrRange {
			t.Errorf("%d: beyond it: %q, error %d", i, s, why)
		}
	}
}

// 3.1: there is no Reader of a device that is not right, nor of one that is down.
func TestReaderRefused(t *testing.T) {
	for i, d := range wrongDevices() {
		if read, why := dev.Reader(d); read != nil || why != api.ErrState {
			t.Errorf("wrong device %d: error %d", i, why)
		}
	}
	down := sample()
	down.Down = true
	if read, why := dev.Reader(down); read != nil || why != api.ErrDown {
		t.Errorf("a device that is down: error %d", why)
	}
}

// 3.4: a Reader keeps nothing of what was handed in, and changes nothing of it.
func TestReaderKeepsNothing(t *testing.T) {
	d := roomy(sample())
	read, _ := dev.Reader(d)
	if !like(d, sample()) {
		t.Errorf("the device was changed: %v", d)
	}
	overwrite(d.Blocks)
	overwrite(d.Waits)
	for num := range uint32(16) {
		want, _ := dev.Read(sample(), num)
		if s, why := read(num); s != want || why != api.OK {
			t.Errorf("block %d: %q, not %q, error %d", num, s, want, why)
		}
	}
}

// 3.2: what is written by WriteAll is as if each block were written by itself, till one is refused, wherever the power goes.
func TestWriteAll(t *testing.T) {
	nearly := api.Dev{Size: 16, Waits: waiting(api.MaxWaits - 2), Fuse: -1}
	down := sample()
	down.Down = true
	for i, x := range []struct {
		d      api.Dev
		blocks []api.Block
	}{
		{sample(), nil},
		{sample(), []api.Block{{Num: 3, Data: "x\x00"}, {Num: 3}, {Num: 15, Data: full}, {Num: 0, Data: "\x00"}}},
		{sample(), []api.Block{{Num: 3, Data: "x"}, {Num: 16, Data: "y"}, {Num: 4, Data: "z"}}},
		{sample(), []api.Block{{Num: 3, Data: "x"}, {Num: 4, Data: full + "\x00"}, {Num: 16}}},
		{nearly, []api.Block{{Num: 3, Data: "x"}, {Num: 4, Data: "y"}}},
		{nearly, []api.Block{{Num: 3, Data: "x"}, {Num: 4, Data: "y"}, {Num: 5, Data: "z"}, {Num: 16}}},
		{down, nil},
		{down, []api.Block{{Num: 16, Data: "x"}}},
	} {
		for fuse := -1; fuse < 5; fuse++ {
			want, wantWhy := x.d, api.OK
			want.Fuse = fuse
			handed := copied(want)
			for _, b := range x.blocks {
				if want, wantWhy = dev.Write(want, b.Num, b.Data); wantWhy != api.OK {
					break
				}
			}
			if after, why := dev.WriteAll(handed, x.blocks); !like(after, want) || why != wantWhy {
				t.Errorf("%d: WriteAll at %d: error %d, not %d", i, fuse, why, wantWhy)
			}
		}
	}
}

// 3.1: that a device is not right is answered ahead of all else, be there blocks to write or not.
func TestWriteAllOfWrongDevices(t *testing.T) {
	for i, d := range wrongDevices() {
		for _, blocks := range [][]api.Block{nil, {{Num: 3, Data: "x"}}} {
			if after, why := dev.WriteAll(d, blocks); !like(after, api.Dev{}) || why != api.ErrState {
				t.Errorf("wrong device %d: %v, error %d", i, after, why)
			}
		}
	}
}

// 3.4: what WriteAll is handed is neither changed nor kept.
func TestWriteAllKeepsNothing(t *testing.T) {
	d := roomy(sample())
	blocks := []api.Block{{Num: 5, Data: "x\x00"}, {Num: 6, Data: strings.Repeat("\x00", 3)}}
	after, _ := dev.WriteAll(d, blocks)
	want := copied(after)
	if !like(d, sample()) || blocks[0].Data != "x\x00" || blocks[1].Data != "\x00\x00\x00" {
		t.Errorf("it was changed: %v, %v", d, blocks)
	}
	overwrite(d.Blocks)
	overwrite(d.Waits)
	overwrite(blocks)
	if !like(after, want) {
		t.Errorf("it changed with the arguments: %v", after)
	}
	untouched, _ := dev.WriteAll(sample(), nil)
	overwrite(untouched.Blocks)
	if again, _ := dev.WriteAll(sample(), nil); !like(again, sample()) {
		t.Errorf("it changed with an earlier answer: %v", again)
	}
}
