package data_test

import (
	"maps"
	"math"
	"slices"
	"testing"

	"cambium/api"
	"cambium/data"
	"cambium/item"
)

// choices are numbers in a mixed order.
type choices uint32

func (x *choices) below(n int) int {
	*x = *x*1664525 + 1013904223
	return int(*x>>8) % n
}

// bytes are n, zero bytes often among them, and often at the end.
func (x *choices) bytes(n int) string {
	b := make([]byte, n)
	few := x.below(4)
	for i := range b {
		if x.below(4) > few {
			b[i] = byte(x.below(256))
		}
	}
	if x.below(2) == 0 {
		clear(b[x.below(n+1):])
	}
	return string(b)
}

// length is one at which a chunk's edges are often near.
func (x *choices) length() int {
	return []int{0, 1, 2, 127, 128, 129, 159, 160, x.below(161)}[x.below(9)]
}

// place is one in a file, often near a chunk's edge, and sometimes behind the file's.
func (x *choices) place() uint32 {
	chunk := []int{0, 1, 2, 3, 4, 510, 511, 512}[x.below(8)]
	return uint32(128*chunk + []int{0, 1, 2, 126, 127, x.below(128)}[x.below(6)])
}

// list is any right one: chunks of some inodes, other keys, and such as are none.
func (x *choices) list() []api.Item {
	vals := map[string]string{}
	for range x.below(12) {
		ino := uint32([]int{1, file, file, file, file + 1, math.MaxUint32}[x.below(6)])
		num := uint32([]int{0, 1, 2, 3, 4, 510, 511, 512}[x.below(8)])
		vals[chunkKey(ino, num)] = x.bytes(x.length())
	}
	for _, other := range others() {
		if x.below(4) == 0 {
			vals[other.Key] = x.bytes(x.length())
		}
	}
	var l []api.Item
	for _, key := range slices.Sorted(maps.Keys(vals)) {
		l = append(l, api.Item{Key: key, Val: vals[key]})
	}
	return l
}

// keptBy is what a list has by a key.
func keptBy(l []api.Item, key string) (string, bool) {
	for _, x := range l {
		if x.Key == key {
			return x.Val, true
		}
	}
	return "", false
}

// byteOf is that at a place of a chunk, as the words say it, by what is kept.
func byteOf(val string, place int) byte {
	if place%128 < len(val) {
		return val[place%128]
	}
	return 0
}

// readSlowly is Read, byte by byte.
func readSlowly(l []api.Item, ino, size, off, n uint32) string {
	var b []byte
	for i := 0; i < int(n) && int(off)+i < int(size); i++ {
		val, _ := keptBy(l, chunkKey(ino, (off+uint32(i))/128))
		b = append(b, byteOf(val, int(off)+i))
	}
	return string(b)
}

// without has bytes without the zero bytes at their end.
func without(b []byte) string {
	for len(b) > 0 && b[len(b)-1] == 0 {
		b = b[:len(b)-1]
	}
	return string(b)
}

// writeSlowly is Write: each chunk byte by byte.
func writeSlowly(l []api.Item, ino, off uint32, bytes string) []api.Change {
	var out []api.Change
	for num := range 512 {
		key := chunkKey(ino, uint32(num))
		was, there := keptBy(l, key)
		var b []byte
		some := false
		for place := 128 * num; place < 128*num+128; place++ {
			if place >= int(off) && place < int(off)+len(bytes) {
				b = append(b, bytes[place-int(off)])
				some = true
			} else {
				b = append(b, byteOf(was, place))
			}
		}
		val := without(b)
		if some && (there != (val != "") || was != val) {
			out = append(out, api.Change{Key: key, Has: val != "", Val: val})
		}
	}
	return out
}

// cutSlowly is Cut: of each chunk that is kept byte by byte.
func cutSlowly(l []api.Item, ino, size uint32) []api.Change {
	var out []api.Change
	for num := range 512 {
		key := chunkKey(ino, uint32(num))
		val, there := keptBy(l, key)
		if !there {
			continue
		}
		var ahead []byte
		for i := range len(val) {
			if 128*num+i < int(size) {
				ahead = append(ahead, val[i])
			}
		}
		switch {
		case 128*num >= int(size):
			out = append(out, api.Change{Key: key})
		case len(ahead) < len(val):
			out = append(out, api.Change{Key: key, Has: without(ahead) != "", Val: without(ahead)})
		}
	}
	return out
}

// 13.1, 13.2: any lists are read, written and cut as the words say.
func TestAsTheWordsSay(t *testing.T) {
	x := choices(1)
	for range 1500 {
		l := x.list()
		ino := uint32(1 + x.below(4))
		off, size, n := x.place(), min(x.place(), api.MaxFile), uint32(x.below(600))
		if s, why := data.Read(l, ino, size, off, n); s != readSlowly(l, ino, size, off, n) || why != api.OK {
			t.Fatalf("Read of %q, %d, %d, %d, %d: %q, error %d", l, ino, size, off, n, s, why)
		}
		bytes := x.bytes(x.below(400))
		if int(off)+len(bytes) <= api.MaxFile {
			if got, why := data.Write(l, ino, off, bytes); !slices.Equal(got, writeSlowly(l, ino, off, bytes)) || why != api.OK {
				t.Fatalf("Write of %q, %d, %d, %q: %#v, error %d", l, ino, off, bytes, got, why)
			}
		}
		if got, why := data.Cut(l, ino, size); !slices.Equal(got, cutSlowly(l, ino, size)) || why != api.OK {
			t.Fatalf("Cut of %q, %d, %d: %#v, error %d", l, ino, size, got, why)
		}
	}
}

func whole(t *testing.T, l []api.Item, ino uint32) string {
	t.Helper()
	s, why := data.Read(l, ino, api.MaxFile, 0, api.MaxFile)
	if len(s) != api.MaxFile || why != api.OK {
		t.Fatalf("Read of the whole of %d: %d bytes, error %d", ino, len(s), why)
	}
	return s
}

// elsewhere has the items of a list that are no chunks of an inode.
func elsewhere(l []api.Item, ino uint32) []api.Item {
	var out []api.Item
	for _, x := range l {
		if len(x.Key) != 9 || x.Key[:5] != chunkKey(ino, 0)[:5] || x.Key > chunkKey(ino, 511) {
			out = append(out, x)
		}
	}
	return out
}

func applied(t *testing.T, l []api.Item, changes []api.Change) []api.Item {
	t.Helper()
	if !slices.IsSortedFunc(changes, func(a, b api.Change) int {
		if a.Key < b.Key {
			return -1
		}
		return 1
	}) {
		t.Fatalf("changes that do not rise: %#v", changes)
	}
	after, why := item.Apply(l, changes)
	if why != api.OK {
		t.Fatalf("Apply of %#v: error %d", changes, why)
	}
	return after
}

// 13.4: what was written is read at its place; other bytes, and other inodes', are as they were.
func TestReadBack(t *testing.T) {
	x := choices(2)
	for range 400 {
		l := x.list()
		was := whole(t, l, file)
		bytes := x.bytes(x.below(700))
		off := uint32(min(int(x.place()), api.MaxFile-len(bytes)))
		changes, why := data.Write(l, file, off, bytes)
		if why != api.OK {
			t.Fatalf("Write: error %d", why)
		}
		after := applied(t, l, changes)
		if whole(t, after, file) != was[:off]+bytes+was[int(off)+len(bytes):] {
			t.Fatalf("Write of %q, %d, %q: other bytes are read", l, off, bytes)
		}
		if !slices.Equal(elsewhere(after, file), elsewhere(l, file)) {
			t.Fatalf("Write of %q, %d, %q: other inodes are otherwise", l, off, bytes)
		}
		if again, why := data.Write(after, file, off, bytes); len(again) != 0 || why != api.OK {
			t.Fatalf("Write of what was written: %#v, error %d", again, why)
		}
	}
}

// 13.5: what was cut is read as it was, up to there, and as zero bytes behind it.
func TestReadOfWhatWasCut(t *testing.T) {
	x := choices(3)
	for range 400 {
		l := x.list()
		was := whole(t, l, file)
		size := min(x.place(), api.MaxFile)
		changes, why := data.Cut(l, file, size)
		if why != api.OK {
			t.Fatalf("Cut: error %d", why)
		}
		after := applied(t, l, changes)
		if whole(t, after, file) != was[:size]+zeros(api.MaxFile-int(size)) {
			t.Fatalf("Cut of %q, %d: other bytes are read", l, size)
		}
		if !slices.Equal(elsewhere(after, file), elsewhere(l, file)) {
			t.Fatalf("Cut of %q, %d: other inodes are otherwise", l, size)
		}
		if again, why := data.Cut(after, file, size); len(again) != 0 || why != api.OK {
			t.Fatalf("Cut of what was cut: %#v, error %d", again, why)
		}
	}
}

// 13.4, 13.5: a file that is written and cut, many times, is what a plain text is that is written and cut.
func TestManyChanges(t *testing.T) {
	x := choices(4)
	var l []api.Item
	want := make([]byte, api.MaxFile)
	for range 300 {
		var changes []api.Change
		if x.below(5) == 0 {
			size := min(x.place(), api.MaxFile)
			clear(want[size:])
			changes, _ = data.Cut(l, file, size)
		} else {
			bytes := x.bytes(x.below(700))
			off := min(int(x.place()), api.MaxFile-len(bytes))
			copy(want[off:], bytes)
			changes, _ = data.Write(l, file, uint32(off), bytes)
		}
		l = applied(t, l, changes)
		if whole(t, l, file) != string(want) {
			t.Fatal("another file is read")
		}
		for _, x := range l {
			if x.Val == "" || len(x.Val) > 128 || x.Val[len(x.Val)-1] == 0 {
				t.Fatalf("a chunk is kept as %q", x.Val)
			}
		}
	}
}

// 13.3: what is answered is written to, and appended to, and nothing else is otherwise.
func TestNewMemory(t *testing.T) {
	room := []api.Item{has(0, letters(128)), has(1, "a"), has(2, "b"), has(3, "c"), has(4, "d")}
	want := slices.Clone(room)
	l := room[:4]
	write := func() []api.Change { got, _ := data.Write(l, file, 0, zeros(300)); return got }
	cut := func() []api.Change { got, _ := data.Cut(l, file, 5); return got }
	for _, ask := range []func() []api.Change{write, cut} {
		first, second := ask(), ask()
		kept := slices.Clone(second)
		for i := range first {
			first[i] = api.Change{Key: "other"}
		}
		_ = append(first, api.Change{Key: "other"})
		if !slices.Equal(second, kept) || !slices.Equal(ask(), kept) {
			t.Error("answers share memory")
		}
	}
	data.Read(l, file, 1000, 0, 1000)
	if !slices.Equal(room, want) {
		t.Errorf("what was handed in is otherwise: %q", room)
	}
	got, _ := data.Write(l, file, 0, "Z")
	text, _ := data.Read(l, file, 4, 0, 4)
	for i := range room {
		room[i].Val = "other"
	}
	if got[0].Val != "Z"+letters(128)[1:] || text != letters(4) {
		t.Errorf("what was answered is otherwise: %#v, %q", got, text)
	}
}
