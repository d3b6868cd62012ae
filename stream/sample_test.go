package stream_test

import (
	"cmp"
	"crypto/sha256"
	"slices"
	"strings"
	"testing"

	"cambium/api"
	"cambium/dirs"
	"cambium/files"
	"cambium/item"
	"cambium/pack"
	"cambium/stream"
)

// choices are numbers in a mixed order.
type choices uint32

func (x *choices) below(n int) int {
	*x = *x*1664525 + 1013904223
	return int(*x>>8) % n
}

func one[T any](x *choices, l []T) T {
	return l[x.below(len(l))]
}

// numberBytes are a number's, the highest first.
func numberBytes(n uint64, width int) string {
	var b []byte
	for i := width - 1; i >= 0; i-- {
		b = append(b, byte(n>>(8*i)))
	}
	return string(b)
}

func textBytes(s string) string {
	return numberBytes(uint64(len(s)), 2) + s
}

// markOf is the mark of items, be they right or not.
func markOf(l []api.Item) [32]byte {
	s := ""
	for _, x := range l {
		s += textBytes(x.Key) + textBytes(x.Val)
	}
	return sha256.Sum256([]byte(s))
}

func put(key, val string) api.Change { return api.Change{Key: key, Has: true, Val: val} }

func drop(key string) api.Change { return api.Change{Key: key} }

func changeBytes(c api.Change) string {
	if c.Has {
		return "\x01" + textBytes(c.Key) + textBytes(c.Val)
	}
	return "\x00" + textBytes(c.Key)
}

// summed are bytes with their sum behind them.
func summed(s string) string {
	return s + numberBytes(uint64(pack.Sum(s)), 4)
}

// counted are the bytes of a stream of changes, be they right or not, that tells how many.
func counted(base [32]byte, count uint64, changes string) string {
	return summed("CS" + string(base[:]) + numberBytes(count, 4) + changes)
}

// streamOf are the bytes of a stream of changes, be they right or not.
func streamOf(base [32]byte, changes ...api.Change) string {
	s := ""
	for _, c := range changes {
		s += changeBytes(c)
	}
	return counted(base, uint64(len(changes)), s)
}

// has is an item whose key begins with a letter and an inode's number.
func has(letter string, ino uint32, rest, val string) api.Item {
	return api.Item{Key: letter + numberBytes(uint64(ino), 4) + rest, Val: val}
}

func node(ino uint32, kind api.FileKind, links, size uint32) api.Item {
	return has("i", ino, "", numberBytes(uint64(kind), 1)+"\x00\x00"+numberBytes(uint64(links), 4)+numberBytes(uint64(size), 4)+"\x00\x00")
}

func entry(dir uint32, name string, ino uint32) api.Item {
	return has("d", dir, name, numberBytes(uint64(ino), 4))
}

func attr(ino uint32, name, val string) api.Item {
	return has("x", ino, name, val)
}

// volume has items in the order of their keys.
func volume(items ...api.Item) []api.Item {
	l := slices.Clone(items)
	slices.SortStableFunc(l, func(a, b api.Item) int { return cmp.Compare(a.Key, b.Key) })
	return l
}

// sample has a directory and a file in it.
func sample() []api.Item {
	return volume(node(api.Root, api.FileDir, 1, 0), node(2, api.FileDir, 1, 0), node(3, api.FileData, 1, 5),
		entry(api.Root, "a", 2), entry(2, "f", 3), has("c", 3, "\x00\x00\x00\x00", "bytes"), attr(3, "k", "v"))
}

// sampleOther is what was made of it: the file is another one, and has no attribute.
func sampleOther() []api.Item {
	return volume(node(api.Root, api.FileDir, 1, 0), node(2, api.FileDir, 1, 0), node(3, api.FileData, 2, 5),
		entry(api.Root, "a", 2), entry(2, "f", 3), entry(2, "g", 3), has("c", 3, "\x00\x00\x00\x00", "b\x00t"))
}

// wrongVolumes are none that is right, and have something.
func wrongVolumes() [][]api.Item {
	l := sample()
	reversed := slices.Clone(l)
	slices.Reverse(reversed)
	return [][]api.Item{
		{{Key: "k", Val: "v"}},
		{{}},
		reversed,
		append(slices.Clone(l), l[len(l)-1]),
		l[2:],
		l[:len(l)-2],
		volume(append(slices.Clone(l), attr(4, "k", "v"))...),
		{node(api.Root, api.FileData, 1, 0)},
	}
}

// done is a volume in which some things were done.
func (x *choices) done(t *testing.T, l []api.Item, n int) []api.Item {
	t.Helper()
	kinds := []api.OpKind{api.OpMake, api.OpMkdir, api.OpLink, api.OpHard, api.OpWrite, api.OpWrite, api.OpCut, api.OpRename, api.OpUnlink, api.OpRmdir, api.OpMode, api.OpSetAttr}
	paths := []string{"/a", "/b", "/c", "/a/b", "/a/c", "/b/a", "/a/b/c"}
	for range n {
		op := api.Op{Kind: one(x, kinds), Path: one(x, paths), To: one(x, paths), Mode: uint16(x.below(9)), N: uint32(x.below(300)), Off: uint32(x.below(300))}
		op.Data = strings.Repeat(string([]byte{byte(x.below(4))}), x.below(65))
		if op.Kind == api.OpSetAttr {
			op.To = "k"
		}
		changes, _, _ := files.Do(l, op)
		l, _ = item.Apply(l, changes)
	}
	if dirs.Check(l) != api.OK {
		t.Fatal("no right volume")
	}
	return l
}

// wantBytes holds what Send answers against bytes, and that these are received.
func wantBytes(t *testing.T, from, to []api.Item, want string) {
	t.Helper()
	if s, why := stream.Send(from, to); s != want || why != api.OK {
		t.Errorf("Send: %q, error %d, not %q", s, why, want)
	}
	wantReceived(t, from, want, to)
}

func wantReceived(t *testing.T, l []api.Item, s string, want []api.Item) {
	t.Helper()
	if got, why := stream.Receive(l, s); !slices.Equal(got, want) || why != api.OK {
		t.Errorf("Receive: %q, error %d, not %q", got, why, want)
	}
	if base, why := stream.Base(s); base != markOf(l) || why != api.OK {
		t.Errorf("Base: %x, error %d, not %x", base, why, markOf(l))
	}
}

// wantNone holds that bytes are no stream's.
func wantNone(t *testing.T, what, s string, l []api.Item) {
	t.Helper()
	if base, why := stream.Base(s); base != [32]byte{} || why != api.ErrStream {
		t.Errorf("%s: Base: %x, error %d", what, base, why)
	}
	wantRefused(t, what, l, s, api.ErrStream)
}

func wantRefused(t *testing.T, what string, l []api.Item, s string, want api.Errno) {
	t.Helper()
	if got, why := stream.Receive(l, s); got != nil || why != want {
		t.Errorf("%s: Receive: %q, error %d, not %d", what, got, why, want)
	}
}
