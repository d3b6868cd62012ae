package dirs_test

import (
	"cmp"
	"slices"
	"strings"
	"testing"

	"cambium/api"
	"cambium/dirs"
)

// numberBytes are a number's, the highest first.
func numberBytes(n uint64, width int) string {
	var b []byte
	for i := width - 1; i >= 0; i-- {
		b = append(b, byte(n>>(8*i)))
	}
	return string(b)
}

// has is an item whose key begins with a letter and an inode's number.
func has(letter string, ino uint32, rest, val string) api.Item {
	return api.Item{Key: letter + numberBytes(uint64(ino), 4) + rest, Val: val}
}

// node is the item of any inode, be it right or not.
func node(ino uint32, n api.Inode) api.Item {
	return has("i", ino, "", numberBytes(uint64(n.Kind), 1)+numberBytes(uint64(n.Mode), 2)+numberBytes(uint64(n.Links), 4)+
		numberBytes(uint64(n.Size), 4)+numberBytes(uint64(len(n.Target)), 2)+n.Target)
}

func entry(dir uint32, name string, ino uint32) api.Item {
	return has("d", dir, name, numberBytes(uint64(ino), 4))
}

func chunk(ino, num uint32, val string) api.Item {
	return has("c", ino, numberBytes(uint64(num), 4), val)
}

func attr(ino uint32, name, val string) api.Item {
	return has("x", ino, name, val)
}

func directory() api.Inode {
	return api.Inode{Kind: api.FileDir, Links: 1}
}

func file(links, size uint32) api.Inode {
	return api.Inode{Kind: api.FileData, Links: links, Size: size}
}

func link(target string) api.Inode {
	return api.Inode{Kind: api.FileLink, Links: 1, Size: uint32(len(target)), Target: target}
}

// volume has items in the order of their keys.
func volume(items ...api.Item) []api.Item {
	l := slices.Clone(items)
	slices.SortStableFunc(l, func(a, b api.Item) int { return cmp.Compare(a.Key, b.Key) })
	return l
}

// with is a volume that has items as well: in place of those of their keys, if there are.
func with(l []api.Item, items ...api.Item) []api.Item {
	var out []api.Item
	for _, x := range l {
		if !slices.ContainsFunc(items, func(y api.Item) bool { return y.Key == x.Key }) {
			out = append(out, x)
		}
	}
	return volume(append(out, items...)...)
}

// without is a volume that has not what is kept by the keys of items.
func without(l []api.Item, items ...api.Item) []api.Item {
	return slices.DeleteFunc(slices.Clone(l), func(x api.Item) bool {
		return slices.ContainsFunc(items, func(y api.Item) bool { return y.Key == x.Key })
	})
}

func letters(n int) string {
	return strings.Repeat("k", n)
}

// The inodes of the sample.
const (
	inA    = 2 // the directory /a
	inB    = 3 // the directory /b, that has nothing
	inC    = 5 // the directory /a/c
	inFile = 6 // the file /f, that is /a/h and /a/c/h, too
	inLink = 7 // the link /l to /a/c, that is /a/l, too
	inUp   = 9 // the link /a/c/up to /
)

func sample() []api.Item {
	linked := link("/a/c")
	linked.Links = 2
	return volume(
		node(api.Root, directory()), node(inA, directory()), node(inB, directory()), node(inC, directory()),
		node(inFile, file(3, 300)), node(inLink, linked), node(inUp, link("/")),
		entry(api.Root, "a", inA), entry(api.Root, "b", inB), entry(api.Root, "f", inFile), entry(api.Root, "l", inLink),
		entry(inA, "c", inC), entry(inA, "h", inFile), entry(inA, "l", inLink),
		entry(inC, "h", inFile), entry(inC, "up", inUp),
		chunk(inFile, 0, letters(128)), chunk(inFile, 2, letters(44)),
		attr(api.Root, "k", ""), attr(inC, "k", "v"), attr(inFile, "k", letters(api.MaxAttr)), attr(inFile, "kk", "v"), attr(inLink, "k", "v"),
	)
}

func wantCheck(t *testing.T, what string, l []api.Item, want api.Errno) {
	t.Helper()
	if why := dirs.Check(l); why != want {
		t.Errorf("%s: Check: error %d, not %d", what, why, want)
	}
}

func wantWalk(t *testing.T, l []api.Item, names []string, follow bool, want uint32, wantWhy api.Errno) {
	t.Helper()
	if ino, why := dirs.Walk(l, names, follow); ino != want || why != wantWhy {
		t.Errorf("Walk along %q, %v: %d, error %d, not %d, %d", names, follow, ino, why, want, wantWhy)
	}
}

func wantList(t *testing.T, l []api.Item, ino uint32, want ...api.Entry) {
	t.Helper()
	if got, why := dirs.List(l, ino); !slices.Equal(got, want) || why != api.OK {
		t.Errorf("List of %d: %v, error %d, not %v", ino, got, why, want)
	}
}
