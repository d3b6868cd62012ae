package data_test

import (
	"math"
	"slices"
	"strings"
	"testing"

	"cambium/api"
	"cambium/data"
)

const file = 2 // the inode that the tests ask for

// numberBytes are a number's, the highest first.
func numberBytes(n uint64, width int) string {
	var b []byte
	for i := width - 1; i >= 0; i-- {
		b = append(b, byte(n>>(8*i)))
	}
	return string(b)
}

// chunkKey is what a chunk is kept by, be it a right one or not.
func chunkKey(ino, num uint32) string {
	return "c" + numberBytes(uint64(ino), 4) + numberBytes(uint64(num), 4)
}

// has is an item of the file's chunk.
func has(num uint32, val string) api.Item {
	return api.Item{Key: chunkKey(file, num), Val: val}
}

// now is the change behind which a chunk of the file has a Val, and gone that behind which there is none.
func now(num uint32, val string) api.Change {
	return api.Change{Key: chunkKey(file, num), Has: true, Val: val}
}

func gone(num uint32) api.Change {
	return api.Change{Key: chunkKey(file, num)}
}

func zeros(n int) string {
	return strings.Repeat("\x00", n)
}

// letters are n bytes, none of them zero, that differ from their neighbours.
func letters(n int) string {
	b := make([]byte, n)
	for i := range b {
		b[i] = byte(i%251) + 1
	}
	return string(b)
}

func wantRead(t *testing.T, l []api.Item, size, off, n uint32, want string) {
	t.Helper()
	if s, why := data.Read(l, file, size, off, n); s != want || why != api.OK {
		t.Errorf("Read of size %d, from %d on, %d bytes: %q, error %d, not %q", size, off, n, s, why, want)
	}
}

func wantWrite(t *testing.T, l []api.Item, off uint32, bytes string, want ...api.Change) {
	t.Helper()
	if got, why := data.Write(l, file, off, bytes); !slices.Equal(got, want) || why != api.OK {
		t.Errorf("Write at %d of %d bytes %.20q: %#v, error %d, not %#v", off, len(bytes), bytes, got, why, want)
	}
}

func wantCut(t *testing.T, l []api.Item, size uint32, want ...api.Change) {
	t.Helper()
	if got, why := data.Cut(l, file, size); !slices.Equal(got, want) || why != api.OK {
		t.Errorf("Cut to %d: %#v, error %d, not %#v", size, got, why, want)
	}
}

// wantErrors asks all for the same error, in arguments that are right but for what is handed in.
func wantErrors(t *testing.T, what string, l []api.Item, ino, size uint32, want api.Errno) {
	t.Helper()
	if s, why := data.Read(l, ino, size, 0, 1); s != "" || why != want {
		t.Errorf("%s: Read: %q, error %d", what, s, why)
	}
	if got, why := data.Write(l, ino, size, "a"); got != nil || why != want {
		t.Errorf("%s: Write: %#v, error %d", what, got, why)
	}
	if got, why := data.Cut(l, ino, size); got != nil || why != want {
		t.Errorf("%s: Cut: %#v, error %d", what, got, why)
	}
}

// 13.1: a list that is not right is told ahead of all else.
func TestWrongLists(t *testing.T) {
	for what, l := range map[string][]api.Item{
		"an empty key":    {{Key: "", Val: "a"}},
		"a long key":      {{Key: strings.Repeat("k", api.MaxKey+1)}},
		"a long Val":      {has(0, letters(api.MaxVal+1))},
		"a key twice":     {has(0, "a"), has(0, "a")},
		"keys that fall":  {has(1, "a"), has(0, "a")},
		"a wrong one far": {has(0, "a"), {Key: "z", Val: letters(api.MaxVal + 1)}},
	} {
		for _, ino := range []uint32{0, 1, file, math.MaxUint32} {
			for _, size := range []uint32{0, 1, api.MaxFile, api.MaxFile + 1, math.MaxUint32} {
				wantErrors(t, what, l, ino, size, api.ErrForm)
			}
		}
	}
}

// 13.1: there is no inode 0, and no file of more than MaxFile bytes.
func TestOutOfRange(t *testing.T) {
	for _, l := range [][]api.Item{nil, {}, {has(0, "a")}, {{Key: chunkKey(0, 0), Val: "a"}}} {
		for _, size := range []uint32{0, 1, api.MaxFile - 1, api.MaxFile, api.MaxFile + 1, math.MaxUint32} {
			wantErrors(t, "inode 0", l, 0, size, api.ErrRange)
		}
		for _, ino := range []uint32{1, file, math.MaxUint32} {
			for _, size := range []uint32{api.MaxFile + 1, api.MaxFile + 2, 1 << 31, math.MaxUint32} {
				wantErrors(t, "a size too great", l, ino, size, api.ErrRange)
			}
		}
	}
}

// 13.1: the bytes from off on, n of them, none from size on.
func TestRead(t *testing.T) {
	l := []api.Item{has(0, letters(128)), has(1, "abc"), has(3, "\x00x")}
	whole := letters(128) + "abc" + zeros(125) + zeros(128) + "\x00x" + zeros(126)
	wantRead(t, l, 512, 0, 512, whole)
	for _, from := range []uint32{0, 1, 126, 127, 128, 129, 130, 131, 255, 256, 383, 384, 385, 386, 511} {
		for _, n := range []uint32{0, 1, 2, 127, 128, 129, 256, 300} {
			for _, size := range []uint32{0, 1, 127, 128, 129, 385, 386, 512} {
				end := min(from+n, size)
				wantRead(t, l, size, from, n, whole[min(from, end):end])
			}
		}
	}
	wantRead(t, nil, 5, 0, 5, zeros(5))
	wantRead(t, nil, 5, 3, 9, zeros(2))
}

// 13.1: places and numbers at the edges: the end is never one of those that wrap round.
func TestReadAtTheEdges(t *testing.T) {
	l := []api.Item{has(0, "ab"), has(511, letters(128))}
	wantRead(t, l, api.MaxFile, 0, math.MaxUint32, "ab"+zeros(api.MaxFile-130)+letters(128))
	wantRead(t, l, api.MaxFile, api.MaxFile-1, 1, letters(128)[127:])
	wantRead(t, l, api.MaxFile, api.MaxFile-1, math.MaxUint32, letters(128)[127:])
	wantRead(t, l, api.MaxFile, 1, math.MaxUint32, "b"+zeros(api.MaxFile-130)+letters(128))
	wantRead(t, l, api.MaxFile-1, api.MaxFile-3, 9, letters(128)[125:127])
	for _, off := range []uint32{api.MaxFile, api.MaxFile + 1, 1 << 31, math.MaxUint32} {
		for _, n := range []uint32{0, 1, 2, 1 << 31, math.MaxUint32} {
			wantRead(t, l, api.MaxFile, off, n, "")
		}
	}
	wantRead(t, l, 0, 0, math.MaxUint32, "")
	wantRead(t, l, 1, 0, 0, "")
	wantRead(t, l, 1, 1, 1, "")
}

// 13.1: of what is kept by a chunk's key more than ChunkSize bytes do not count.
func TestReadOfLongChunks(t *testing.T) {
	l := []api.Item{has(0, letters(api.MaxVal)), has(2, letters(129)), has(3, "c")}
	wantRead(t, l, 400, 0, 400, letters(128)+zeros(128)+letters(128)+"c"+zeros(15))
	wantRead(t, l, 400, 127, 3, letters(128)[127:]+zeros(2))
	wantRead(t, l, 400, 130, 20, zeros(20))
	wantRead(t, l, 400, 383, 2, letters(128)[127:]+"c")
}

// others are items that are no chunks of the file, though some keys begin as those do.
func others() []api.Item {
	return []api.Item{
		{Key: "c"},
		{Key: chunkKey(1, 0), Val: "other"},
		{Key: chunkKey(1, 511), Val: letters(160)},
		{Key: chunkKey(file, 0)[:5], Val: "other"},
		{Key: chunkKey(file, 0)[:8], Val: "other"},
		{Key: chunkKey(file, 0) + "\x00", Val: "other"},
		{Key: chunkKey(file, 1) + "k", Val: "other"},
		{Key: chunkKey(file, 512), Val: "other"},
		{Key: chunkKey(file, math.MaxUint32), Val: "other"},
		{Key: chunkKey(file+1, 0), Val: "other"},
		{Key: "d" + chunkKey(file, 0)[1:], Val: "other"},
		{Key: "i" + chunkKey(file, 0)[1:], Val: "other"},
		{Key: "x" + chunkKey(file, 0)[1:], Val: "other"},
	}
}

// 13.1, 13.2: no other key is a chunk's of the file.
func TestOtherKeys(t *testing.T) {
	l := others()
	wantRead(t, l, api.MaxFile, 0, api.MaxFile, zeros(api.MaxFile))
	wantCut(t, l, 0)
	wantCut(t, l, api.MaxFile)
	wantWrite(t, l, 0, "a", now(0, "a"))
	wantWrite(t, l, 127, "ab", now(0, zeros(127)+"a"), now(1, "b"))
	wantWrite(t, l, 127, zeros(200))
}

// 13.2: each chunk with some of the bytes has them at their places.
func TestWrite(t *testing.T) {
	wantWrite(t, nil, 0, "abc", now(0, "abc"))
	wantWrite(t, nil, 2, "abc", now(0, "\x00\x00abc"))
	wantWrite(t, nil, 126, "abc", now(0, zeros(126)+"ab"), now(1, "c"))
	wantWrite(t, nil, 127, "abc", now(0, zeros(127)+"a"), now(1, "bc"))
	wantWrite(t, nil, 128, "abc", now(1, "abc"))
	wantWrite(t, nil, 0, letters(128), now(0, letters(128)))
	wantWrite(t, nil, 0, letters(129), now(0, letters(128)), now(1, letters(129)[128:]))
	wantWrite(t, nil, 1, letters(128), now(0, "\x00"+letters(127)), now(1, letters(128)[127:]))
	wantWrite(t, nil, 127, letters(130), now(0, zeros(127)+letters(1)), now(1, letters(129)[1:]), now(2, letters(130)[129:]))
	l := []api.Item{has(0, "abcdef"), has(1, letters(128)), has(2, "x")}
	wantWrite(t, l, 0, "X", now(0, "Xbcdef"))
	wantWrite(t, l, 2, "XY", now(0, "abXYef"))
	wantWrite(t, l, 5, "XY", now(0, "abcdeXY"))
	wantWrite(t, l, 6, "XY", now(0, "abcdefXY"))
	wantWrite(t, l, 8, "XY", now(0, "abcdef\x00\x00XY"))
	wantWrite(t, l, 255, "XY", now(1, letters(127)+"X"), now(2, "Y"))
	wantWrite(t, l, 254, "XY", now(1, letters(126)+"XY"))
}

// 13.2: bytes that end behind MaxFile are out of range; so is a place behind it, also of no bytes.
func TestWriteAtTheEdges(t *testing.T) {
	wantWrite(t, nil, api.MaxFile, "")
	wantWrite(t, nil, api.MaxFile-1, "")
	wantWrite(t, nil, api.MaxFile-1, "a", now(511, zeros(127)+"a"))
	wantWrite(t, nil, api.MaxFile-128, letters(128), now(511, letters(128)))
	wantWrite(t, nil, api.MaxFile-129, letters(129), now(510, zeros(127)+letters(1)), now(511, letters(129)[1:]))
	for _, x := range []struct {
		off   uint32
		bytes string
	}{
		{api.MaxFile + 1, ""}, {math.MaxUint32, ""}, {1 << 31, ""},
		{api.MaxFile, "a"}, {api.MaxFile - 1, "ab"}, {math.MaxUint32, "a"}, {math.MaxUint32 - 1, "abc"},
		{0, zeros(api.MaxFile + 1)}, {1, letters(api.MaxFile)}, {math.MaxUint32, letters(api.MaxFile)}, {0, zeros(1 << 20)},
	} {
		if got, why := data.Write(nil, file, x.off, x.bytes); got != nil || why != api.ErrRange {
			t.Errorf("Write at %d of %d bytes: %d changes, error %d", x.off, len(x.bytes), len(got), why)
		}
	}
	full, why := data.Write(nil, file, 0, letters(api.MaxFile))
	if len(full) != 512 || why != api.OK {
		t.Fatalf("Write of a whole file: %d changes, error %d", len(full), why)
	}
	for i, c := range full {
		if c != now(uint32(i), letters(api.MaxFile)[128*i:128*i+128]) {
			t.Errorf("Write of a whole file: change %d: %#v", i, c)
		}
	}
}

// 13.2: no bytes are in no chunk.
func TestWriteOfNothing(t *testing.T) {
	for _, l := range [][]api.Item{nil, {has(0, "a\x00")}, {has(0, "")}, {has(0, letters(160))}} {
		for _, off := range []uint32{0, 1, 5, 127, 128, 129, api.MaxFile} {
			wantWrite(t, l, off, "")
		}
	}
}

// 13.2: zero bytes at a chunk's end are not kept, and nothing is, if there are none left.
func TestWriteOfZeroBytes(t *testing.T) {
	wantWrite(t, nil, 0, zeros(500))
	wantWrite(t, nil, 0, "a\x00\x00", now(0, "a"))
	wantWrite(t, nil, 3, "\x00a\x00", now(0, zeros(4)+"a"))
	l := []api.Item{has(0, "abc"), has(1, "abc"), has(2, "abc")}
	wantWrite(t, l, 2, "\x00", now(0, "ab"))
	wantWrite(t, l, 1, zeros(5), now(0, "a"))
	wantWrite(t, l, 1, "\x00", now(0, "a\x00c"))
	wantWrite(t, l, 0, zeros(3), gone(0))
	wantWrite(t, l, 0, zeros(2), now(0, "\x00\x00c"))
	wantWrite(t, l, 1, zeros(256), now(0, "a"), gone(1), now(2, "\x00bc"))
	wantWrite(t, l, 100, zeros(20))
}

// 13.2: a chunk that is kept so already is left out; one that has the same bytes, but is kept otherwise, is not.
func TestWriteOfWhatIsThere(t *testing.T) {
	l := []api.Item{has(0, "abc"), has(1, letters(128)), has(2, "abc")}
	wantWrite(t, l, 0, "abc")
	wantWrite(t, l, 0, "abc"+zeros(125)+letters(128)+"ab")
	wantWrite(t, l, 1, "bc"+zeros(125)+letters(128)+"aX", now(2, "aXc"))
	wantWrite(t, l, 0, "abX"+zeros(125)+letters(128)+"ab", now(0, "abX"))
	for _, x := range []struct {
		kept, bytes string
		want        api.Change
	}{
		{"ab\x00", "ab", now(0, "ab")},
		{"ab\x00", "a", now(0, "ab")},
		{"", "\x00", gone(0)},
		{"\x00\x00", "\x00", gone(0)},
		{zeros(160), zeros(2), gone(0)},
		{zeros(128) + "a", zeros(2), gone(0)},
		{letters(160), letters(2), now(0, letters(128))},
		{letters(129), letters(128), now(0, letters(128))},
		{"a" + zeros(127) + "b", "a", now(0, "a")},
	} {
		wantWrite(t, []api.Item{has(0, x.kept)}, 0, x.bytes, x.want)
	}
}

// 13.2: no chunk has a byte from size on.
func TestCut(t *testing.T) {
	l := []api.Item{has(0, letters(128)), has(1, "a\x00bc"), has(4, "d"), has(511, letters(128))}
	wantCut(t, l, 0, gone(0), gone(1), gone(4), gone(511))
	wantCut(t, l, 1, now(0, letters(1)), gone(1), gone(4), gone(511))
	wantCut(t, l, 127, now(0, letters(127)), gone(1), gone(4), gone(511))
	wantCut(t, l, 128, gone(1), gone(4), gone(511))
	wantCut(t, l, 129, now(1, "a"), gone(4), gone(511))
	wantCut(t, l, 130, now(1, "a"), gone(4), gone(511))
	wantCut(t, l, 131, now(1, "a\x00b"), gone(4), gone(511))
	for _, size := range []uint32{132, 133, 256, 257, 511, 512} {
		wantCut(t, l, size, gone(4), gone(511))
	}
	wantCut(t, l, 513, gone(511))
	wantCut(t, l, api.MaxFile-128, gone(511))
	wantCut(t, l, api.MaxFile-1, now(511, letters(127)))
	wantCut(t, l, api.MaxFile)
	wantCut(t, nil, 0)
	wantCut(t, nil, api.MaxFile)
}

// 13.2: what is left is kept without zero bytes at its end; what has no byte behind the cut is left as it is kept.
func TestCutOfZeroBytes(t *testing.T) {
	l := []api.Item{has(0, "\x00\x00a\x00\x00"), has(1, "")}
	wantCut(t, l, 0, gone(0), gone(1))
	wantCut(t, l, 1, gone(0), gone(1))
	wantCut(t, l, 2, gone(0), gone(1))
	wantCut(t, l, 3, now(0, "\x00\x00a"), gone(1))
	wantCut(t, l, 4, now(0, "\x00\x00a"), gone(1))
	wantCut(t, l, 5, gone(1))
	wantCut(t, l, 128, gone(1))
	wantCut(t, l, 129)
}

// 13.2: bytes that do not count are cut as well.
func TestCutOfLongChunks(t *testing.T) {
	l := []api.Item{has(0, letters(160)), has(1, letters(20)), has(511, letters(160))}
	wantCut(t, l, 127, now(0, letters(127)), gone(1), gone(511))
	wantCut(t, l, 128, now(0, letters(128)), gone(1), gone(511))
	wantCut(t, l, 129, now(0, letters(129)), now(1, letters(1)), gone(511))
	wantCut(t, l, 159, now(0, letters(159)), gone(511))
	wantCut(t, l, 160, gone(511))
	wantCut(t, l, api.MaxFile-1, now(511, letters(127)))
	wantCut(t, l, api.MaxFile, now(511, letters(128)))
	wantCut(t, []api.Item{has(0, zeros(140)+"a")}, 140, gone(0))
	wantCut(t, []api.Item{has(0, "a"+zeros(139)+"a")}, 140, now(0, "a"))
}

// The example of the chapter.
func TestExample(t *testing.T) {
	changes, _ := data.Write(nil, file, 126, "abc")
	wantRead(t, []api.Item{has(0, changes[0].Val), has(1, changes[1].Val)}, 129, 127, 100, "bc")
}
