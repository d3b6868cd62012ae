package dev_test

import (
	"math"
	"slices"
	"strings"
	"testing"

	"cambium/api"
	"cambium/dev"
)

var full = strings.Repeat("f", api.BlockSize) // as much as a block has

// like tells if two devices are one: nil and empty lists are alike.
func like(a, b api.Dev) bool {
	return a.Size == b.Size && a.Down == b.Down && a.Fuse == b.Fuse &&
		slices.Equal(a.Blocks, b.Blocks) && slices.Equal(a.Waits, b.Waits)
}

// copied is a device that shares nothing with d.
func copied(d api.Dev) api.Dev {
	d.Blocks, d.Waits = slices.Clone(d.Blocks), slices.Clone(d.Waits)
	return d
}

// waiting has n writes that wait, to many places.
func waiting(n int) []api.Block {
	l := make([]api.Block, n)
	for i := range l {
		l[i] = api.Block{Num: uint32(i % 16), Data: "w"}
	}
	return l
}

// sample is a device of which something lasts and something waits.
func sample() api.Dev {
	return api.Dev{
		Size:   16,
		Blocks: []api.Block{{Num: 0, Data: "zero"}, {Num: 3, Data: "a"}, {Num: 15, Data: "last"}},
		Waits:  []api.Block{{Num: 3, Data: "b"}, {Num: 4, Data: "c"}, {Num: 3, Data: "d"}, {Num: 15}},
		Fuse:   -1,
	}
}

func rightDevices() []api.Dev {
	return []api.Dev{
		sample(),
		{Size: api.MinBlocks},
		{Size: api.MaxBlocks, Blocks: []api.Block{}, Waits: []api.Block{}, Down: true, Fuse: math.MinInt},
		{Size: api.MaxBlocks, Blocks: []api.Block{{Num: api.MaxBlocks - 1, Data: full}}, Fuse: math.MaxInt},
		{Size: api.MinBlocks, Blocks: []api.Block{{Num: 14, Data: "\x00\x00a"}, {Num: 15, Data: "\xff\xfe"}}},
		{Size: api.MinBlocks, Waits: []api.Block{{Num: 15, Data: full}, {Num: 0}, {Num: 15, Data: full}, {Num: 15}}},
		{Size: api.MinBlocks, Waits: waiting(api.MaxWaits), Fuse: 1},
	}
}

func wrongDevices() []api.Dev {
	block := func(l ...api.Block) api.Dev { return api.Dev{Size: 16, Blocks: l, Fuse: 2} }
	wait := func(l ...api.Block) api.Dev { return api.Dev{Size: 16, Waits: l, Down: true} }
	return []api.Dev{
		{},
		{Size: api.MinBlocks - 1},
		{Size: api.MaxBlocks + 1},
		{Size: math.MaxUint32, Fuse: 4},
		block(api.Block{Num: 16, Data: "a"}),
		block(api.Block{Num: math.MaxUint32, Data: "a"}),
		block(api.Block{Num: 1}),
		block(api.Block{Num: 1, Data: "\x00"}),
		block(api.Block{Num: 1, Data: "a\x00"}),
		block(api.Block{Num: 1, Data: full + "f"}),
		block(api.Block{Num: 1, Data: "a"}, api.Block{Num: 1, Data: "a"}),
		block(api.Block{Num: 2, Data: "a"}, api.Block{Num: 1, Data: "b"}),
		block(api.Block{Num: 1, Data: "a"}, api.Block{Num: 3, Data: "b"}, api.Block{Num: 2, Data: "c"}),
		wait(api.Block{Num: 16, Data: "a"}),
		wait(api.Block{Num: 16}),
		wait(api.Block{Num: 1, Data: "\x00"}),
		wait(api.Block{Num: 1, Data: "a\x00"}),
		wait(api.Block{Num: 1, Data: full + "f"}),
		wait(api.Block{Num: 1, Data: "a"}, api.Block{Num: 1, Data: full + "\x00"}),
		{Size: 16, Waits: waiting(api.MaxWaits + 1)},
	}
}

// 3.1: what a right device is.
func TestCheck(t *testing.T) {
	for i, d := range rightDevices() {
		if why := dev.Check(d); why != api.OK {
			t.Errorf("right device %d: error %d", i, why)
		}
	}
	for i, d := range wrongDevices() {
		if why := dev.Check(d); why != api.ErrState {
			t.Errorf("wrong device %d: error %d", i, why)
		}
	}
}

// 3.1: that a device is not right is answered first, and all else is zero.
func TestWrongDevices(t *testing.T) {
	for i, d := range wrongDevices() {
		for _, num := range []uint32{0, 16, math.MaxUint32} {
			for _, data := range []string{"", full + "f"} {
				if s, why := dev.Read(d, num); s != "" || why != api.ErrState {
					t.Errorf("Read of %d: %q, error %d", i, s, why)
				}
				if after, why := dev.Write(d, num, data); !like(after, api.Dev{}) || why != api.ErrState {
					t.Errorf("Write to %d: %v, error %d", i, after, why)
				}
				if after, why := dev.Spoil(d, num, data); !like(after, api.Dev{}) || why != api.ErrState {
					t.Errorf("Spoil of %d: %v, error %d", i, after, why)
				}
			}
		}
		if after, why := dev.Flush(d); !like(after, api.Dev{}) || why != api.ErrState {
			t.Errorf("Flush of %d: %v, error %d", i, after, why)
		}
		if after, why := dev.Crash(d, []bool{true}); !like(after, api.Dev{}) || why != api.ErrState {
			t.Errorf("Crash of %d: %v, error %d", i, after, why)
		}
	}
}

// 3.1: a block is read as the last one that waits of its number, else as the medium has it.
func TestRead(t *testing.T) {
	d := sample()
	down := sample()
	down.Down = true
	for _, x := range []struct {
		d    api.Dev
		num  uint32
		want string
		why  api.Errno
	}{
		{d, 0, "zero", api.OK},
		{d, 1, "", api.OK},
		{d, 3, "d", api.OK},
		{d, 4, "c", api.OK},
		{d, 14, "", api.OK},
		{d, 15, "", api.OK},
		{d, 16, "", api.ErrRange},
		{d, math.MaxUint32, "", api.ErrRange},
		{down, 0, "", api.ErrDown},
		{down, 3, "", api.ErrDown},
		{down, 16, "", api.ErrDown},
	} {
		if s, why := dev.Read(x.d, x.num); s != x.want || why != x.why {
			t.Errorf("Read of %d: %q, error %d", x.num, s, why)
		}
	}
}

// 3.1: each block of a full list is found.
func TestReadOfAll(t *testing.T) {
	d := api.Dev{Size: 100}
	for num := uint32(1); num < 100; num += 2 {
		d.Blocks = append(d.Blocks, api.Block{Num: num, Data: strings.Repeat("x", int(num))})
	}
	for num := range uint32(100) {
		want := strings.Repeat("x", int(num%2*num))
		if s, why := dev.Read(d, num); s != want || why != api.OK {
			t.Errorf("Read of %d: %q, error %d", num, s, why)
		}
	}
}

// 3.2: what is written waits, cut, behind all else; the medium is as it was.
func TestWrite(t *testing.T) {
	for _, x := range []struct {
		num       uint32
		data, cut string
	}{
		{0, "", ""},
		{3, "x", "x"},
		{15, "\x00", ""},
		{7, "\x00x\x00y\x00\x00", "\x00x\x00y"},
		{7, "\xff\x80\x00", "\xff\x80"},
		{7, full, full},
		{7, full[1:] + "\x00", full[1:]},
		{7, strings.Repeat("\x00", api.BlockSize), ""},
	} {
		d := sample()
		want := sample()
		want.Waits = append(want.Waits, api.Block{Num: x.num, Data: x.cut})
		after, why := dev.Write(d, x.num, x.data)
		if !like(after, want) || why != api.OK {
			t.Errorf("Write %d %q: %v, error %d", x.num, x.data, after, why)
		}
		if s, why := dev.Read(after, x.num); s != x.cut || why != api.OK {
			t.Errorf("Read of %d: %q, error %d", x.num, s, why)
		}
	}
}

// 3.2: a write that is refused leaves the device as it was; what is named first is answered.
func TestWriteRefused(t *testing.T) {
	d := sample()
	d.Fuse = 5
	down := copied(d)
	down.Down = true
	packed := api.Dev{Size: 16, Waits: waiting(api.MaxWaits)}
	downPacked := copied(packed)
	downPacked.Down = true
	for i, x := range []struct {
		d    api.Dev
		num  uint32
		data string
		why  api.Errno
	}{
		{d, 16, "x", api.ErrRange},
		{d, math.MaxUint32, full + "f", api.ErrRange},
		{d, 3, full + "f", api.ErrLong},
		{d, 3, full + "\x00", api.ErrLong},
		{d, 3, strings.Repeat("\x00", api.BlockSize+1), api.ErrLong},
		{down, 3, "x", api.ErrDown},
		{down, 16, full + "f", api.ErrDown},
		{packed, 3, "x", api.ErrFull},
		{packed, 3, "", api.ErrFull},
		{packed, 16, "x", api.ErrRange},
		{packed, 3, full + "f", api.ErrLong},
		{downPacked, 3, "x", api.ErrDown},
	} {
		if after, why := dev.Write(x.d, x.num, x.data); !like(after, x.d) || why != x.why {
			t.Errorf("%d: Write %d: error %d", i, x.num, why)
		}
	}
}

// 3.2: the last write that there is room for.
func TestWriteTheLastThatWaits(t *testing.T) {
	d := api.Dev{Size: 16, Waits: waiting(api.MaxWaits - 1), Fuse: -1}
	d, why := dev.Write(d, 5, "last")
	if len(d.Waits) != api.MaxWaits || why != api.OK {
		t.Fatalf("Write: %d wait, error %d", len(d.Waits), why)
	}
	if s, why := dev.Read(d, 5); s != "last" || why != api.OK {
		t.Errorf("Read: %q, error %d", s, why)
	}
}

// 3.2: each write takes one off the fuse, and the one at its end waits, but the power is off.
func TestFuseOfWrites(t *testing.T) {
	d := api.Dev{Size: 16, Fuse: 2}
	for i, want := range []api.Dev{
		{Size: 16, Fuse: 1, Waits: []api.Block{{Num: 0, Data: "x"}}},
		{Size: 16, Fuse: 0, Waits: []api.Block{{Num: 0, Data: "x"}, {Num: 1, Data: "x"}}},
		{Size: 16, Fuse: 0, Waits: []api.Block{{Num: 0, Data: "x"}, {Num: 1, Data: "x"}, {Num: 2, Data: "x"}}, Down: true},
		{Size: 16, Fuse: 0, Waits: []api.Block{{Num: 0, Data: "x"}, {Num: 1, Data: "x"}, {Num: 2, Data: "x"}}, Down: true},
	} {
		after, why := dev.Write(d, uint32(i), "x")
		if !like(after, want) || (why == api.ErrDown) != want.Down || why != api.OK && why != api.ErrDown {
			t.Errorf("Write %d: %v, error %d", i, after, why)
		}
		d = after
	}
}

// 3.2: a flush lays the eldest first; nothing waits then, and what is empty is not listed.
func TestFlush(t *testing.T) {
	want := api.Dev{Size: 16, Blocks: []api.Block{{Num: 0, Data: "zero"}, {Num: 3, Data: "d"}, {Num: 4, Data: "c"}}, Fuse: -1}
	if after, why := dev.Flush(sample()); !like(after, want) || why != api.OK {
		t.Errorf("Flush: %v, error %d", after, why)
	}
	if after, why := dev.Flush(want); !like(after, want) || why != api.OK {
		t.Errorf("Flush of what does not wait: %v, error %d", after, why)
	}
	many := api.Dev{Size: 16, Waits: waiting(api.MaxWaits), Fuse: -7}
	after, why := dev.Flush(many)
	if len(after.Blocks) != 16 || len(after.Waits) != 0 || after.Fuse != -7 || why != api.OK {
		t.Errorf("Flush of many: %v, error %d", after, why)
	}
}

// 3.2: a flush takes one off the fuse; at its end nothing is flushed, and the power is off.
func TestFuseOfFlushes(t *testing.T) {
	d := sample()
	d.Fuse = 1
	want, _ := dev.Flush(sample())
	want.Fuse = 0
	after, why := dev.Flush(d)
	if !like(after, want) || why != api.OK {
		t.Errorf("Flush at 1: %v, error %d", after, why)
	}
	d.Fuse = 0
	want = copied(d)
	want.Down = true
	for range 2 {
		if d, why = dev.Flush(d); !like(d, want) || why != api.ErrDown {
			t.Errorf("Flush at 0: %v, error %d", d, why)
		}
	}
	d.Fuse = 9
	if after, why := dev.Flush(d); !like(after, d) || why != api.ErrDown {
		t.Errorf("Flush of one that is down: %v, error %d", after, why)
	}
}

// 3.2: a fuse below 0 has no end.
func TestNoFuse(t *testing.T) {
	for _, fuse := range []int{-1, -2, math.MinInt} {
		d := api.Dev{Size: 16, Fuse: fuse}
		for i := range 5 {
			var why api.Errno
			if d, why = dev.Write(d, 1, "x"); d.Fuse != fuse || why != api.OK {
				t.Errorf("Write %d: fuse %d, error %d", i, d.Fuse, why)
			}
		}
		if d, why := dev.Flush(d); d.Fuse != fuse || why != api.OK {
			t.Errorf("Flush: fuse %d, error %d", d.Fuse, why)
		}
	}
}

// 3.3: what keep says is kept, the eldest first; what it does not say is not.
func TestCrash(t *testing.T) {
	medium := sample().Blocks
	other := func(third string, more ...api.Block) []api.Block {
		return append([]api.Block{{Num: 0, Data: "zero"}, {Num: 3, Data: third}}, more...)
	}
	last := api.Block{Num: 15, Data: "last"}
	for _, x := range []struct {
		keep []bool
		want []api.Block
	}{
		{nil, medium},
		{[]bool{}, medium},
		{[]bool{false, false, false, false, true, true}, medium},
		{[]bool{true}, other("b", last)},
		{[]bool{false, true}, other("a", api.Block{Num: 4, Data: "c"}, last)},
		{[]bool{false, false, true}, other("d", last)},
		{[]bool{true, false, true, false}, other("d", last)},
		{[]bool{false, false, false, true}, other("a")},
		{[]bool{true, true, true, true, true}, other("d", api.Block{Num: 4, Data: "c"})},
	} {
		for _, fuse := range []int{-5, 0, 3} {
			for _, down := range []bool{false, true} {
				d := sample()
				d.Fuse, d.Down = fuse, down
				want := api.Dev{Size: 16, Blocks: x.want, Fuse: -1}
				if after, why := dev.Crash(d, x.keep); !like(after, want) || why != api.OK {
					t.Errorf("Crash %v: %v, error %d", x.keep, after, why)
				}
			}
		}
	}
}

// 3.3: example 1 of the chapter.
func TestCrashOfTheExample(t *testing.T) {
	d := api.Dev{Size: 16, Fuse: -1}
	d, _ = dev.Write(d, 3, "a")
	d, _ = dev.Flush(d)
	d, _ = dev.Write(d, 3, "b")
	d, _ = dev.Write(d, 4, "c")
	d, why := dev.Crash(d, []bool{false, true})
	if why != api.OK || !slices.Equal(d.Blocks, []api.Block{{Num: 3, Data: "a"}, {Num: 4, Data: "c"}}) {
		t.Errorf("Crash: %v, error %d", d, why)
	}
}

// 3.3: the medium alone is spoilt, with the power on or off.
func TestSpoil(t *testing.T) {
	for _, x := range []struct {
		num  uint32
		data string
		want []api.Block
	}{
		{0, "", []api.Block{{Num: 3, Data: "a"}, {Num: 15, Data: "last"}}},
		{3, "\x00\x00", []api.Block{{Num: 0, Data: "zero"}, {Num: 15, Data: "last"}}},
		{15, strings.Repeat("\x00", api.BlockSize), []api.Block{{Num: 0, Data: "zero"}, {Num: 3, Data: "a"}}},
		{4, "", sample().Blocks},
		{3, "x\x00", []api.Block{{Num: 0, Data: "zero"}, {Num: 3, Data: "x"}, {Num: 15, Data: "last"}}},
		{5, full, []api.Block{{Num: 0, Data: "zero"}, {Num: 3, Data: "a"}, {Num: 5, Data: full}, {Num: 15, Data: "last"}}},
	} {
		for _, down := range []bool{false, true} {
			d := sample()
			d.Fuse, d.Down = 0, down
			want := copied(d)
			want.Blocks = x.want
			if after, why := dev.Spoil(d, x.num, x.data); !like(after, want) || why != api.OK {
				t.Errorf("Spoil %d %q: %v, error %d", x.num, x.data, after, why)
			}
		}
	}
}

// 3.3: what can't be put on the medium leaves the device as it was.
func TestSpoilRefused(t *testing.T) {
	d := sample()
	d.Down = true
	for _, x := range []struct {
		num  uint32
		data string
		why  api.Errno
	}{
		{16, "x", api.ErrRange},
		{math.MaxUint32, full + "f", api.ErrRange},
		{15, full + "f", api.ErrLong},
		{15, full + "\x00", api.ErrLong},
	} {
		if after, why := dev.Spoil(d, x.num, x.data); !like(after, d) || why != x.why {
			t.Errorf("Spoil %d: %v, error %d", x.num, after, why)
		}
	}
}

// 3.3: a list of waits that is full is no hindrance to a spoiler.
func TestSpoilWhileMuchWaits(t *testing.T) {
	d := api.Dev{Size: 16, Waits: waiting(api.MaxWaits)}
	after, why := dev.Spoil(d, 3, "x")
	if why != api.OK || len(after.Waits) != api.MaxWaits || !slices.Equal(after.Blocks, []api.Block{{Num: 3, Data: "x"}}) {
		t.Errorf("Spoil: %v, error %d", after.Blocks, why)
	}
}
