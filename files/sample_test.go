package files_test

import (
	"cmp"
	"slices"
	"strings"
	"testing"

	"cambium/api"
	"cambium/dirs"
	"cambium/files"
	"cambium/item"
)

// numberBytes are a number's, the highest first.
func numberBytes(n uint64, width int) string {
	var b []byte
	for i := width - 1; i >= 0; i-- {
		b = append(b, byte(n>>(8*i)))
	}
	return string(b)
}

// has is an item whose key begins with a letter and an inode's number.
func has(letter string, ino uint32, rest, val string) api.Item {
	return api.Item{Key: letter + numberBytes(uint64(ino), 4) + rest, Val: val}
}

func node(ino uint32, n api.Inode) api.Item {
	return has("i", ino, "", numberBytes(uint64(n.Kind), 1)+numberBytes(uint64(n.Mode), 2)+numberBytes(uint64(n.Links), 4)+
		numberBytes(uint64(n.Size), 4)+numberBytes(uint64(len(n.Target)), 2)+n.Target)
}

func entry(dir uint32, name string, ino uint32) api.Item {
	return has("d", dir, name, numberBytes(uint64(ino), 4))
}

func chunk(ino, num uint32, val string) api.Item {
	return has("c", ino, numberBytes(uint64(num), 4), val)
}

func attr(ino uint32, name, val string) api.Item {
	return has("x", ino, name, val)
}

func directory() api.Inode {
	return api.Inode{Kind: api.FileDir, Links: 1}
}

func file(links, size uint32) api.Inode {
	return api.Inode{Kind: api.FileData, Links: links, Size: size}
}

func link(links uint32, target string) api.Inode {
	return api.Inode{Kind: api.FileLink, Links: links, Size: uint32(len(target)), Target: target}
}

// volume has items in the order of their keys.
func volume(items ...api.Item) []api.Item {
	l := slices.Clone(items)
	slices.SortStableFunc(l, func(a, b api.Item) int { return cmp.Compare(a.Key, b.Key) })
	return l
}

// with is a volume that has items as well: in place of those of their keys, if there are.
func with(l []api.Item, items ...api.Item) []api.Item {
	return volume(append(without(l, items...), items...)...)
}

// without is a volume that has not what is kept by the keys of items.
func without(l []api.Item, items ...api.Item) []api.Item {
	return slices.DeleteFunc(slices.Clone(l), func(x api.Item) bool {
		return slices.ContainsFunc(items, func(y api.Item) bool { return y.Key == x.Key })
	})
}

func letters(n int) string {
	return strings.Repeat("k", n)
}

func zeros(n int) string {
	return strings.Repeat("\x00", n)
}

// The inodes of the sample; 4 is the least number that is free.
const (
	inA    = 2 // the directory /a
	inB    = 3 // the directory /b, that has no entries
	inFree = 4
	inC    = 5  // the directory /a/c
	inFile = 6  // the file /f, that is /a/h and /a/c/h, too
	inLink = 7  // the link /l to /a/c, that is /a/l, too
	inUp   = 9  // the link /a/c/up to /
	inOne  = 10 // the file /one, that has one name
	inLost = 11 // the link /lost to what is not there
	inLoop = 12 // the link /loop to itself
	inBad  = 13 // the link /bad to no path
)

func sample() []api.Item {
	return volume(
		node(api.Root, directory()), node(inA, directory()), node(inB, directory()), node(inC, directory()),
		node(inFile, file(3, 300)), node(inLink, link(2, "/a/c")), node(inUp, link(1, "/")), node(inOne, file(1, 129)),
		node(inLost, link(1, "/none")), node(inLoop, link(1, "/loop")), node(inBad, link(1, "bad")),
		entry(api.Root, "a", inA), entry(api.Root, "b", inB), entry(api.Root, "f", inFile), entry(api.Root, "l", inLink),
		entry(api.Root, "one", inOne), entry(api.Root, "lost", inLost), entry(api.Root, "loop", inLoop), entry(api.Root, "bad", inBad),
		entry(inA, "c", inC), entry(inA, "h", inFile), entry(inA, "l", inLink),
		entry(inC, "h", inFile), entry(inC, "up", inUp),
		chunk(inFile, 0, letters(128)), chunk(inFile, 2, letters(44)), chunk(inOne, 0, "a"), chunk(inOne, 1, "b"),
		attr(api.Root, "k", ""), attr(inB, "k", "v"), attr(inC, "k", "v"), attr(inFile, "k", letters(api.MaxAttr)), attr(inFile, "kk", "v"),
		attr(inLink, "k", "v"), attr(inOne, "k", "v"), attr(inOne, "kk", "v"), attr(inUp, "k", "v"),
	)
}

// is is the change behind which there is an item, gone the one behind which there is none of its key.
func is(x api.Item) api.Change {
	return api.Change{Key: x.Key, Has: true, Val: x.Val}
}

func gone(x api.Item) api.Change {
	return api.Change{Key: x.Key}
}

// wantChanges asks for changes, and for nothing to be told; they are handed in as they are to rise.
func wantChanges(t *testing.T, l []api.Item, op api.Op, want ...api.Change) {
	t.Helper()
	got, told, why := files.Do(l, op)
	if !slices.Equal(got, want) || !isNothing(told) || why != api.OK {
		t.Errorf("Do of %#v: %#v, %#v, error %d, not %#v", op, got, told, why, want)
	}
	if after, why := item.Apply(l, got); why != api.OK || dirs.Check(after) != api.OK {
		t.Errorf("Do of %#v: the volume is not right any more", op)
	}
}

// wantTold asks for what is told, and for no change.
func wantTold(t *testing.T, l []api.Item, op api.Op, want api.Told) {
	t.Helper()
	got, told, why := files.Do(l, op)
	if len(got) != 0 || !same(told, want) || why != api.OK {
		t.Errorf("Do of %#v: %#v, %#v, error %d, not %#v", op, got, told, why, want)
	}
}

func wantError(t *testing.T, l []api.Item, op api.Op, want api.Errno) {
	t.Helper()
	if got, told, why := files.Do(l, op); got != nil || !isNothing(told) || why != want {
		t.Errorf("Do of %#v: %#v, %#v, error %d, not %d", op, got, told, why, want)
	}
}

func same(a, b api.Told) bool {
	return a.Text == b.Text && a.Ino == b.Ino && a.Inode == b.Inode && slices.Equal(a.Entries, b.Entries)
}

func isNothing(told api.Told) bool {
	return same(told, api.Told{})
}

// done is a volume when something is done in it that is no error.
func done(t *testing.T, l []api.Item, op api.Op) []api.Item {
	t.Helper()
	changes, _, why := files.Do(l, op)
	if why != api.OK {
		t.Fatalf("Do of %#v: error %d", op, why)
	}
	after, why := item.Apply(l, changes)
	if why != api.OK {
		t.Fatalf("Apply of %#v: error %d", changes, why)
	}
	return after
}

// told is what is told of something that is no error.
func told(t *testing.T, l []api.Item, op api.Op) api.Told {
	t.Helper()
	_, told, why := files.Do(l, op)
	if why != api.OK {
		t.Fatalf("Do of %#v: error %d", op, why)
	}
	return told
}
