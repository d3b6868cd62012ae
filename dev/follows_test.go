package dev_test

import (
	"slices"
	"strconv"
	"testing"

	"cambium/api"
	"cambium/dev"
)

// call is one that answers a device, whether it refuses or not.
type call struct {
	name string
	do   func(d api.Dev) (api.Dev, api.Errno)
}

func calls() []call {
	return []call{
		{"Write", func(d api.Dev) (api.Dev, api.Errno) { return dev.Write(d, 2, "new") }},
		{"Write refused", func(d api.Dev) (api.Dev, api.Errno) { return dev.Write(d, 99, "new") }},
		{"Flush", dev.Flush},
		{"Flush refused", func(d api.Dev) (api.Dev, api.Errno) { d.Down = true; return dev.Flush(d) }},
		{"Flush at the fuse's end", func(d api.Dev) (api.Dev, api.Errno) { d.Fuse = 0; return dev.Flush(d) }},
		{"Crash", func(d api.Dev) (api.Dev, api.Errno) { return dev.Crash(d, []bool{true, true}) }},
		{"Crash of all", func(d api.Dev) (api.Dev, api.Errno) { return dev.Crash(d, nil) }},
		{"Spoil", func(d api.Dev) (api.Dev, api.Errno) { return dev.Spoil(d, 2, "new") }},
		{"Spoil refused", func(d api.Dev) (api.Dev, api.Errno) { return dev.Spoil(d, 99, "new") }},
	}
}

// roomy is a device whose lists have room behind them.
func roomy(d api.Dev) api.Dev {
	d.Blocks, d.Waits = slices.Grow(d.Blocks, 8), slices.Grow(d.Waits, 8)
	return d
}

// overwrite changes everything in a list, and in the room behind it.
func overwrite(l []api.Block) {
	l = l[:cap(l)]
	for i := range l {
		l[i] = api.Block{Num: 77, Data: "overwritten"}
	}
}

// 3.4: what is handed in is not changed, nor what is behind it.
func TestArgumentsStay(t *testing.T) {
	for _, c := range calls() {
		d := roomy(sample())
		behind := d.Waits[:cap(d.Waits)][len(d.Waits)]
		c.do(d)
		if !like(d, sample()) || d.Waits[:cap(d.Waits)][len(d.Waits)] != behind {
			t.Errorf("%s: it was changed: %v", c.name, d)
		}
		if behind := d.Blocks[:cap(d.Blocks)][len(d.Blocks)]; behind != (api.Block{}) {
			t.Errorf("%s: what is behind it was changed: %v", c.name, behind)
		}
	}
	keep := []bool{true, false, true}
	dev.Crash(sample(), keep)
	if !slices.Equal(keep, []bool{true, false, true}) {
		t.Errorf("Crash: it was changed: %v", keep)
	}
}

// 3.4: an answer shares nothing with what was handed in, nor its lists with one another.
func TestAnswersAreNew(t *testing.T) {
	for _, c := range calls() {
		d := roomy(sample())
		after, _ := c.do(d)
		want := copied(after)
		overwrite(d.Blocks)
		overwrite(d.Waits)
		if !like(after, want) {
			t.Errorf("%s: it changed with the argument: %v", c.name, after)
		}
		again, _ := c.do(sample())
		overwrite(after.Blocks)
		if !slices.Equal(after.Waits, want.Waits) {
			t.Errorf("%s: what waits changed with the medium: %v", c.name, after)
		}
		overwrite(after.Waits)
		if !like(again, want) {
			t.Errorf("%s: the next answer is %v, not %v", c.name, again, want)
		}
	}
}

// kept has the i-th of n by the i-th bit.
func kept(bits, n int) []bool {
	keep := make([]bool, n)
	for i := range keep {
		keep[i] = bits>>i&1 == 1
	}
	return keep
}

// plain is a device as a table of what each block has.
func plain(t *testing.T, d api.Dev) []string {
	t.Helper()
	blocks := make([]string, d.Size)
	for num := range d.Size {
		s, why := dev.Read(d, num)
		if why != api.OK {
			t.Fatalf("Read of %d: error %d", num, why)
		}
		blocks[num] = s
	}
	return blocks
}

// 3.5 and 3.6: behind any crash a block that was not written since has what was flushed, and any other that, or one of those that waited, whole.
func TestSafeAndWhole(t *testing.T) {
	d := api.Dev{Size: 16, Fuse: -1}
	for num := range uint32(6) {
		d, _ = dev.Write(d, num, "flushed "+strconv.Itoa(int(num)))
	}
	d, _ = dev.Flush(d)
	flushed := plain(t, d)
	written := []api.Block{{Num: 1, Data: "x"}, {Num: 2, Data: "y"}, {Num: 1, Data: ""}, {Num: 9, Data: "z"}, {Num: 2, Data: "yy"}, {Num: 1, Data: "xx"}, {Num: 2}}
	for _, b := range written {
		d, _ = dev.Write(d, b.Num, b.Data)
	}
	for bits := range 1 << len(written) {
		keep := kept(bits, len(written))
		want := slices.Clone(flushed)
		for i, b := range written {
			if keep[i] {
				want[b.Num] = b.Data
			}
		}
		after, why := dev.Crash(d, keep)
		if why != api.OK || dev.Check(after) != api.OK {
			t.Fatalf("Crash %v: error %d, then %d", keep, why, dev.Check(after))
		}
		if got := plain(t, after); !slices.Equal(got, want) {
			t.Errorf("Crash %v: %q, not %q", keep, got, want)
		}
	}
}

// 3.5: wherever the fuse ends, what was flushed is there behind a crash that keeps nothing, and what waited behind one that keeps all.
func TestSafeAtEachFuse(t *testing.T) {
	for fuse := range 12 {
		d := api.Dev{Size: 16, Fuse: fuse}
		lasting, waiting := make([]string, 16), make([]string, 16)
		for step := 0; step < 100 && !d.Down; step++ {
			var why api.Errno
			if step%3 == 2 {
				if d, why = dev.Flush(d); why == api.OK {
					copy(lasting, waiting)
				}
				continue
			}
			data := "step " + strconv.Itoa(step)
			d, _ = dev.Write(d, uint32(step%5), data)
			waiting[step%5] = data
		}
		none, _ := dev.Crash(d, nil)
		if got := plain(t, none); !slices.Equal(got, lasting) {
			t.Errorf("fuse %d, nothing kept: %q, not %q", fuse, got, lasting)
		}
		all, _ := dev.Crash(d, kept(-1, len(d.Waits)))
		if got := plain(t, all); !slices.Equal(got, waiting) {
			t.Errorf("fuse %d, all kept: %q, not %q", fuse, got, waiting)
		}
	}
}

// 3.2 and 3.3: many writes in a mixed order are flushed as a table has them.
func TestManyWrites(t *testing.T) {
	d := api.Dev{Size: 64, Fuse: -1}
	want := make([]string, 64)
	x := uint32(1)
	for round := range 6 {
		for range 60 {
			x = x*1664525 + 1013904223
			num, data := x>>26, strconv.Itoa(int(x>>8&0xffff))
			if x>>24&3 == 0 {
				data = ""
			}
			d, _ = dev.Write(d, num, data)
			want[num] = data
		}
		if got := plain(t, d); !slices.Equal(got, want) {
			t.Fatalf("round %d: read as %q, not %q", round, got, want)
		}
		var why api.Errno
		if d, why = dev.Flush(d); why != api.OK || dev.Check(d) != api.OK {
			t.Fatalf("round %d: Flush: error %d, then %d", round, why, dev.Check(d))
		}
		if got := plain(t, d); !slices.Equal(got, want) {
			t.Fatalf("round %d: flushed to %q, not %q", round, got, want)
		}
	}
}
