package delta_test

import (
	"cmp"
	"slices"
	"strings"
	"testing"

	"cambium/api"
	"cambium/delta"
	"cambium/dirs"
)

// choices are numbers in a mixed order.
type choices uint32

func (x *choices) below(n int) int {
	*x = *x*1664525 + 1013904223
	return int(*x>>8) % n
}

func one[T any](x *choices, l []T) T {
	return l[x.below(len(l))]
}

// numberBytes are a number's, the highest first.
func numberBytes(n uint64, width int) string {
	var b []byte
	for i := width - 1; i >= 0; i-- {
		b = append(b, byte(n>>(8*i)))
	}
	return string(b)
}

// has is an item whose key begins with a letter and an inode's number.
func has(letter string, ino uint32, rest, val string) api.Item {
	return api.Item{Key: letter + numberBytes(uint64(ino), 4) + rest, Val: val}
}

func node(ino uint32, n api.Inode) api.Item {
	return has("i", ino, "", numberBytes(uint64(n.Kind), 1)+numberBytes(uint64(n.Mode), 2)+numberBytes(uint64(n.Links), 4)+
		numberBytes(uint64(n.Size), 4)+numberBytes(uint64(len(n.Target)), 2)+n.Target)
}

func entry(dir uint32, name string, ino uint32) api.Item {
	return has("d", dir, name, numberBytes(uint64(ino), 4))
}

func chunk(ino, num uint32, val string) api.Item {
	return has("c", ino, numberBytes(uint64(num), 4), val)
}

func attr(ino uint32, name, val string) api.Item {
	return has("x", ino, name, val)
}

func directory(mode uint16) api.Inode {
	return api.Inode{Kind: api.FileDir, Mode: mode, Links: 1}
}

func file(mode uint16, links, size uint32) api.Inode {
	return api.Inode{Kind: api.FileData, Mode: mode, Links: links, Size: size}
}

func link(mode uint16, target string) api.Inode {
	return api.Inode{Kind: api.FileLink, Mode: mode, Links: 1, Size: uint32(len(target)), Target: target}
}

// volume has items in the order of their keys.
func volume(items ...api.Item) []api.Item {
	l := slices.Clone(items)
	slices.SortStableFunc(l, func(a, b api.Item) int { return cmp.Compare(a.Key, b.Key) })
	return l
}

// with is a volume that has items as well: in place of those of their keys, if there are.
func with(l []api.Item, items ...api.Item) []api.Item {
	return volume(append(without(l, items...), items...)...)
}

// without is a volume that has not what is kept by the keys of items.
func without(l []api.Item, items ...api.Item) []api.Item {
	return slices.DeleteFunc(slices.Clone(l), func(x api.Item) bool {
		return slices.ContainsFunc(items, func(y api.Item) bool { return y.Key == x.Key })
	})
}

func letters(n int) string {
	return strings.Repeat("k", n)
}

func zeros(n int) string {
	return strings.Repeat("\x00", n)
}

// The inodes of the sample.
const (
	inA    = 2       // the directory /a
	inB    = 3       // the directory /b, that has nothing
	inC    = 5       // the directory /a/c
	inFile = 6       // the file /f, that is /a/h and /a/c/h, too
	inLink = 1 << 24 // the link /a/c/up to /
	inLess = 9       // the file /a!, whose path stands ahead of /a/c
	inMore = 10      // the file /a0, whose path stands behind /a/c
)

func sample() []api.Item {
	return volume(
		node(api.Root, directory(0o755)), node(inA, directory(1)), node(inB, directory(2)), node(inC, directory(65535)),
		node(inFile, file(3, 3, 310)), node(inLink, link(4, "/")), node(inLess, file(5, 1, 0)), node(inMore, file(6, 1, 2)),
		entry(api.Root, "a", inA), entry(api.Root, "b", inB), entry(api.Root, "f", inFile),
		entry(api.Root, "a!", inLess), entry(api.Root, "a0", inMore),
		entry(inA, "c", inC), entry(inA, "h", inFile),
		entry(inC, "h", inFile), entry(inC, "up", inLink),
		chunk(inFile, 0, letters(128)), chunk(inFile, 2, "x\x00y"),
		attr(api.Root, "root", ""), attr(inC, "k", "v"), attr(inFile, "kk", letters(api.MaxAttr)), attr(inFile, "k", "\x00"), attr(inLink, "k", "v"),
	)
}

// sampleFile is what is seen of the file with three names at one of them.
func sampleFile(path string) api.Seen {
	text := letters(128) + zeros(128) + "x\x00y" + zeros(51)
	return api.Seen{Path: path, Kind: api.FileData, Mode: 3, Text: text,
		Attrs: []api.Item{{Key: "k", Val: "\x00"}, {Key: "kk", Val: letters(api.MaxAttr)}}}
}

// sampleSeen is what is seen of the sample.
func sampleSeen() []api.Seen {
	v := []api.Item{{Key: "k", Val: "v"}}
	return []api.Seen{
		{Path: "/", Kind: api.FileDir, Mode: 0o755, Attrs: []api.Item{{Key: "root"}}},
		{Path: "/a", Kind: api.FileDir, Mode: 1},
		{Path: "/a!", Kind: api.FileData, Mode: 5},
		{Path: "/a/c", Kind: api.FileDir, Mode: 65535, Attrs: v},
		sampleFile("/a/c/h"),
		{Path: "/a/c/up", Kind: api.FileLink, Mode: 4, Text: "/", Attrs: v},
		sampleFile("/a/h"),
		{Path: "/a0", Kind: api.FileData, Mode: 6, Text: "\x00\x00"},
		{Path: "/b", Kind: api.FileDir, Mode: 2},
		sampleFile("/f"),
	}
}

// wrongVolumes are none that is right, each of a kind of its own.
func wrongVolumes() [][]api.Item {
	l := sample()
	reversed := slices.Clone(l)
	slices.Reverse(reversed)
	return [][]api.Item{
		nil,
		{},
		{{Key: "k", Val: "v"}},
		reversed,
		append(slices.Clone(l), l[len(l)-1]),
		with(l, api.Item{Key: "k"}),
		without(l, entry(api.Root, "b", inB)),
		without(l, node(api.Root, directory(0))),
		with(l, node(inFile, file(3, 2, 310))),
		with(l, node(inFile, file(3, 3, 258))),
		with(l, entry(inB, "self", api.Root)),
		without(with(l, entry(inC, "a", inA)), entry(api.Root, "a", inA)),
		with(l, attr(7, "k", "v")),
		with(l, chunk(inFile, 1, "x\x00")),
	}
}

func same(a, b api.Seen) bool {
	return a.Path == b.Path && a.Kind == b.Kind && a.Mode == b.Mode && a.Text == b.Text && slices.Equal(a.Attrs, b.Attrs)
}

func wantSeen(t *testing.T, l []api.Item, want []api.Seen) {
	t.Helper()
	got, why := delta.Seen(l)
	if why != api.OK || !slices.EqualFunc(got, want, same) {
		t.Fatalf("Seen: error %d, %d paths, not %d:\n%.300v\n%.300v", why, len(got), len(want), got, want)
	}
}

func wantPaths(t *testing.T, what string, a, b []api.Item, want ...api.Delta) {
	t.Helper()
	if dirs.Check(a) != api.OK || dirs.Check(b) != api.OK {
		t.Fatalf("%s: errors %d, %d", what, dirs.Check(a), dirs.Check(b))
	}
	if got, why := delta.Paths(a, b); why != api.OK || !slices.Equal(got, want) {
		t.Errorf("%s: Paths: %v, error %d, not %v", what, got, why, want)
	}
	back := slices.Clone(want)
	for i, d := range back {
		switch d.Kind {
		case api.DeltaNew:
			back[i].Kind = api.DeltaGone
		case api.DeltaGone:
			back[i].Kind = api.DeltaNew
		}
	}
	if got, why := delta.Paths(b, a); why != api.OK || !slices.Equal(got, back) {
		t.Errorf("%s: Paths the other way round: %v, error %d, not %v", what, got, why, back)
	}
}
