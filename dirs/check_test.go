package dirs_test

import (
	"math"
	"slices"
	"strings"
	"testing"

	"cambium/api"
	"cambium/dirs"
)

// 14.1: volumes that are right, at the edges that the words name.
func TestRightVolumes(t *testing.T) {
	root := node(api.Root, directory())
	moded := directory()
	moded.Mode = math.MaxUint16
	for what, l := range map[string][]api.Item{
		"the root alone":         {root},
		"a root of another Mode": {node(api.Root, moded)},
		"the sample":             sample(),
		"the greatest numbers": volume(root, entry(api.Root, "d", math.MaxUint32), node(math.MaxUint32, directory()),
			entry(math.MaxUint32, letters(api.MaxName), math.MaxUint32-1), node(math.MaxUint32-1, file(1, api.MaxFile)),
			chunk(math.MaxUint32-1, 511, letters(128)), attr(math.MaxUint32, letters(api.MaxName), "v")),
		"a file without chunks":               volume(root, entry(api.Root, "f", 2), node(2, file(1, api.MaxFile))),
		"a chunk of one byte":                 volume(root, entry(api.Root, "f", 2), node(2, file(1, 129)), chunk(2, 1, "a")),
		"a chunk that begins with zero bytes": volume(root, entry(api.Root, "f", 2), node(2, file(1, 3)), chunk(2, 0, "\x00\x00a")),
		"a link to no path":                   volume(root, entry(api.Root, "l", 2), node(2, link("no path"))),
		"attributes of all kinds":             volume(root, attr(1, "k", "\x00"), entry(1, "l", 3), node(3, link("a")), attr(3, "k", letters(api.MaxAttr))),
		"a directory above one of less":       volume(root, entry(1, "d", 9), node(9, directory()), entry(9, "d", 2), node(2, directory())),
		"many names": volume(root, entry(1, "a", 2), entry(1, "b", 2), entry(1, "c", 2), entry(1, "d", 3), node(3, directory()),
			entry(3, "a", 2), node(2, file(4, 0))),
	} {
		wantCheck(t, what, l, api.OK)
	}
}

// wrongItems are volumes of which a list, a key, or what is kept by it, is not right by itself.
func wrongItems() map[string][]api.Item {
	l := sample()
	dir := func(change func(n *api.Inode)) api.Item {
		n := directory()
		change(&n)
		return node(inB, n)
	}
	return map[string][]api.Item{
		"keys that do not rise":           append(slices.Clone(l[1:]), l[0]),
		"two keys that do not rise":       append(slices.Clone(l[:len(l)-2]), l[len(l)-1], l[len(l)-2]),
		"a key twice":                     volume(append(l, attr(inC, "k", "v"))...),
		"an entry twice":                  volume(append(l, entry(api.Root, "b", inB))...),
		"an empty key":                    with(l, api.Item{}),
		"a long key":                      with(l, attr(inC, letters(api.MaxKey), "")),
		"a key of no kind":                with(l, has("e", inC, "", "")),
		"a key of no inode":               with(l, attr(0, "k", "")),
		"an inode 0":                      with(l, node(0, directory())),
		"a key of an inode with a name":   with(l, has("i", inC, "a", node(inC, directory()).Val)),
		"a key cut short":                 with(l, api.Item{Key: "i\x00\x00\x00"}),
		"a letter alone":                  with(l, api.Item{Key: "d"}),
		"an entry without a name":         with(l, entry(inA, "", inB)),
		"an entry that is no name":        with(without(l, entry(api.Root, "b", 0)), entry(api.Root, "..", inB)),
		"an entry with a slash":           with(without(l, entry(api.Root, "b", 0)), entry(api.Root, "b/", inB)),
		"an entry too long":               with(without(l, entry(api.Root, "b", 0)), entry(api.Root, letters(api.MaxName+1), inB)),
		"an attribute that is no name":    with(l, attr(inC, ".", "v")),
		"an attribute without a name":     with(l, attr(inC, "", "v")),
		"a chunk too far":                 with(l, chunk(inFile, 512, "a")),
		"a chunk without a number":        with(l, has("c", inFile, "", "a")),
		"no inode's bytes":                with(l, has("i", inB, "", "")),
		"an inode of no kind":             with(l, dir(func(n *api.Inode) { n.Kind = api.FileNone })),
		"a directory without Links":       with(l, dir(func(n *api.Inode) { n.Links = 0 })),
		"a directory with a Size":         with(l, dir(func(n *api.Inode) { n.Size = 1 })),
		"a directory with a Target":       with(l, dir(func(n *api.Inode) { n.Target = "a" })),
		"an inode with a byte behind it":  with(l, has("i", inB, "", node(inB, directory()).Val+"\x00")),
		"a file too long":                 with(l, node(inFile, file(3, api.MaxFile+1))),
		"a link without a Target":         with(l, node(inUp, link(""))),
		"a link of another Size":          with(l, node(inUp, api.Inode{Kind: api.FileLink, Links: 1, Size: 2, Target: "/"})),
		"an entry of too few bytes":       with(l, has("d", api.Root, "b", "\x00\x00\x03")),
		"an entry of too many bytes":      with(l, has("d", api.Root, "b", "\x00\x00\x00\x03\x00")),
		"an entry with a zero byte ahead": with(l, has("d", api.Root, "b", "\x00\x00\x00\x00\x03")),
		"an entry of nothing":             with(l, has("d", api.Root, "b", "")),
		"an entry that names 0":           with(l, entry(inB, "a", 0)),
		"an entry that names the root":    with(l, entry(inB, "a", api.Root)),
		"a chunk of nothing":              with(l, chunk(inFile, 0, "")),
		"a chunk of a zero byte":          with(l, chunk(inFile, 0, "\x00")),
		"a zero byte at a chunk's end":    with(l, chunk(inFile, 0, "a\x00")),
		"a chunk too long":                with(l, chunk(inFile, 0, letters(129))),
		"an attribute too long":           with(l, attr(inFile, "k", letters(api.MaxAttr+1))),
		"an attribute of the root too":    with(l, attr(api.Root, "k", letters(api.MaxVal+1))),
	}
}

// wrongWholes are volumes whose items are right by themselves, but do not go together.
func wrongWholes() map[string][]api.Item {
	l := sample()
	root := node(api.Root, directory())
	twice := directory()
	twice.Links = 2
	return map[string][]api.Item{
		"nothing":                              nil,
		"an empty one":                         {},
		"no root":                              without(l, root),
		"another directory alone":              {node(2, directory())},
		"a root that is a file":                {node(api.Root, file(1, 0))},
		"a root that is a link":                {node(api.Root, link("/"))},
		"an entry of no inode":                 with(l, entry(4, "a", inB)),
		"a chunk of no inode":                  with(l, chunk(4, 0, "a")),
		"an attribute of no inode":             with(l, attr(4, "k", "v")),
		"an attribute of the last one":         with(l, attr(math.MaxUint32, "k", "v")),
		"an entry of a file":                   with(l, entry(inFile, "a", 4), node(4, file(1, 0))),
		"an entry of a link":                   with(l, entry(inLink, "a", 4), node(4, file(1, 0))),
		"a chunk of the root":                  with(l, chunk(api.Root, 0, "a")),
		"a chunk of a directory":               with(l, chunk(inC, 0, "a")),
		"a chunk of a link":                    with(l, chunk(inLink, 0, "/")),
		"a Size below the chunks":              with(l, node(inFile, file(3, 299))),
		"a Size of nothing":                    with(l, node(inFile, file(3, 0))),
		"a Size below a whole chunk":           with(l, node(inFile, file(3, 127)), chunk(inFile, 0, letters(128))),
		"a Size where a chunk begins":          with(l, node(inFile, file(3, 256))),
		"an entry that names nothing":          with(l, entry(inB, "a", 4)),
		"an entry whose inode is gone":         without(l, node(inB, directory())),
		"a file whose inode is gone":           volume(root, entry(api.Root, "f", 2)),
		"a directory that is not named":        without(l, entry(api.Root, "b", inB)),
		"a file that is not named":             with(l, node(4, file(1, 0))),
		"a link that is not named":             without(l, entry(inC, "up", inUp)),
		"a directory that is named twice":      with(l, entry(api.Root, "bb", inB)),
		"a directory that is twice elsewhere":  with(l, entry(inA, "b", inB)),
		"a directory of Links 2, named twice":  with(l, entry(inA, "b", inB), node(inB, twice)),
		"a file of more Links":                 with(l, node(inFile, file(4, 300))),
		"a file of fewer Links":                with(l, node(inFile, file(2, 300))),
		"a file of the most Links":             with(l, node(inFile, file(math.MaxUint32, 300))),
		"a file that is named less":            without(l, entry(inA, "h", inFile)),
		"a file that is named more":            with(l, entry(inB, "h", inFile)),
		"a directory in itself":                with(without(l, entry(api.Root, "b", inB)), entry(inB, "b", inB)),
		"directories in each other":            with(without(l, entry(api.Root, "a", inA)), entry(inC, "a", inA)),
		"directories in each other, and below": volume(root, node(2, directory()), node(3, directory()), node(4, directory()), entry(2, "a", 3), entry(3, "b", 2), entry(3, "c", 4)),
		"three directories in each other":      volume(root, node(2, directory()), node(3, directory()), node(4, directory()), entry(2, "a", 3), entry(3, "a", 4), entry(4, "a", 2)),
		"a directory in itself beside others":  with(l, node(10, directory()), entry(10, "a", 10)),
	}
}

func wrongVolumes() map[string][]api.Item {
	all := wrongItems()
	for what, l := range wrongWholes() {
		all[what] = l
	}
	return all
}

// 14.1: volumes that are not.
func TestWrongVolumes(t *testing.T) {
	for what, l := range wrongVolumes() {
		wantCheck(t, what, l, api.ErrBad)
	}
}

// 14.1: the others answer that first, whatever they are asked for.
func TestWrongVolumesAreToldFirst(t *testing.T) {
	for what, l := range wrongVolumes() {
		for _, ino := range []uint32{0, api.Root, inB, inFile, math.MaxUint32} {
			if n, why := dirs.Get(l, ino); n != (api.Inode{}) || why != api.ErrBad {
				t.Errorf("%s: Get of %d: %v, error %d", what, ino, n, why)
			}
			if got, why := dirs.List(l, ino); got != nil || why != api.ErrBad {
				t.Errorf("%s: List of %d: %v, error %d", what, ino, got, why)
			}
		}
		for _, names := range [][]string{nil, {"b"}, {"f", "x"}, {""}} {
			wantWalk(t, l, names, true, 0, api.ErrBad)
		}
		if ino, why := dirs.Next(l); ino != 0 || why != api.ErrBad {
			t.Errorf("%s: Next: %d, error %d", what, ino, why)
		}
	}
}

// deep is a volume of directories below one another, the last one with an entry of the one of that number, if it is not 0.
func deep(levels int, last uint32) []api.Item {
	var l []api.Item
	for i := 1; i <= levels; i++ {
		if i < levels {
			l = append(l, entry(uint32(i), "d", uint32(i+1)))
		} else if last != 0 {
			l = append(l, entry(uint32(i), "d", last))
		}
	}
	for i := 1; i <= levels; i++ {
		l = append(l, node(uint32(i), directory()))
	}
	return l
}

// 14.1, and P1: as many levels as there may be.
func TestManyLevels(t *testing.T) {
	const levels = 1 << 16
	l := deep(levels, 0)
	wantCheck(t, "many levels", l, api.OK)
	names := strings.Split(strings.Repeat("d ", levels-1)+"d", " ")
	wantWalk(t, l, names[1:], true, levels, api.OK)
	wantWalk(t, l, names, true, 0, api.ErrNone)
	// Without the entry of the root they go round.
	round := slices.DeleteFunc(deep(levels, 2), func(x api.Item) bool { return x.Key == entry(1, "d", 2).Key })
	wantCheck(t, "many that go round", round, api.ErrBad)
}
