package delta_test

import (
	"slices"
	"strings"
	"testing"

	"cambium/api"
	"cambium/delta"
	"cambium/dirs"
)

// 17.2: each path, in the order of their bytes, with what stands there.
func TestSeen(t *testing.T) {
	wantSeen(t, sample(), sampleSeen())
	wantSeen(t, dirs.New(), []api.Seen{{Path: "/", Kind: api.FileDir}})
	wantSeen(t, volume(node(api.Root, directory(9)), attr(api.Root, "b", ""), attr(api.Root, "a", "1")),
		[]api.Seen{{Path: "/", Kind: api.FileDir, Mode: 9, Attrs: []api.Item{{Key: "a", Val: "1"}, {Key: "b"}}}})
}

// 17.2: a file has all its bytes: those that are not kept, too.
func TestSeenBytes(t *testing.T) {
	for _, x := range []struct {
		size   uint32
		chunks []api.Item
		want   string
	}{
		{0, nil, ""},
		{1, nil, "\x00"},
		{300, nil, zeros(300)},
		{3, []api.Item{chunk(2, 0, "abc")}, "abc"},
		{5, []api.Item{chunk(2, 0, "abc")}, "abc\x00\x00"},
		{129, []api.Item{chunk(2, 1, "a")}, zeros(128) + "a"},
		{256, []api.Item{chunk(2, 0, letters(128)), chunk(2, 1, letters(128))}, letters(256)},
		{api.MaxFile, nil, zeros(api.MaxFile)},
		{api.MaxFile, []api.Item{chunk(2, 511, letters(128)), chunk(2, 256, "y")}, zeros(1<<15) + "y" + zeros(1<<15-129) + letters(128)},
	} {
		// Another file's bytes stand beside them.
		l := volume(append(x.chunks, node(api.Root, directory(0)), node(2, file(0, 1, x.size)), entry(api.Root, "f", 2),
			node(3, file(0, 1, 200)), entry(api.Root, "g", 3), chunk(3, 0, "other"), chunk(3, 1, "more"))...)
		wantSeen(t, l, []api.Seen{
			{Path: "/", Kind: api.FileDir},
			{Path: "/f", Kind: api.FileData, Text: x.want},
			{Path: "/g", Kind: api.FileData, Text: "other" + zeros(123) + "more" + zeros(68)},
		})
	}
}

// 17.2: a link is not gone along: it is seen where it stands, and its Target as it is, be it a path or not.
func TestSeenLinks(t *testing.T) {
	for _, target := range []string{"/", "/d", "/l", "/none", "no path", "\xff", letters(api.MaxTarget)} {
		l := volume(node(api.Root, directory(0)), node(2, directory(0)), entry(api.Root, "d", 2), node(3, link(7, target)), entry(2, "l", 3))
		wantSeen(t, l, []api.Seen{
			{Path: "/", Kind: api.FileDir},
			{Path: "/d", Kind: api.FileDir},
			{Path: "/d/l", Kind: api.FileLink, Mode: 7, Text: target},
		})
	}
}

// 17.2: paths rise by their bytes, not name by name.
func TestSeenOrder(t *testing.T) {
	items := []api.Item{node(api.Root, directory(0)), node(2, directory(0)), entry(api.Root, "a", 2), node(3, file(0, 1, 0)), entry(2, "\x01", 3)}
	want := []string{"/", "/a", "/a/\x01"}
	for i, name := range []string{"a\x01", "a.", "a0", "aa", "a\xff", "A", "b", "\x01", "\xff"} {
		ino := uint32(10 + i)
		items = append(items, node(ino, file(0, 1, 0)), entry(api.Root, name, ino))
		want = append(want, "/"+name)
	}
	slices.Sort(want)
	got, why := delta.Seen(volume(items...))
	var paths []string
	for _, s := range got {
		paths = append(paths, s.Path)
	}
	if why != api.OK || !slices.Equal(paths, want) {
		t.Errorf("Seen: %q, error %d, not %q", paths, why, want)
	}
}

// 17.2: a path may be far longer than one that is asked for.
func TestSeenLongPaths(t *testing.T) {
	const deep = 3000
	items := []api.Item{node(api.Root, directory(0))}
	for i := range uint32(deep) {
		items = append(items, node(i+2, directory(0)), entry(i+1, letters(api.MaxName), i+2))
	}
	got, why := delta.Seen(volume(items...))
	if why != api.OK || len(got) != deep+1 {
		t.Fatalf("Seen: %d, error %d", len(got), why)
	}
	for i, s := range got[1:] {
		if s.Path != strings.Repeat("/"+letters(api.MaxName), i+1) {
			t.Fatalf("path %d has %d bytes", i, len(s.Path))
		}
	}
	other := with(volume(items...), attr(deep+1, "k", "v"))
	wantPaths(t, "the deepest one", volume(items...), other, api.Delta{Path: got[deep].Path, Kind: api.DeltaOther})
}

// 17.2: many files, of many names, are seen before long.
func TestSeenMany(t *testing.T) {
	const many = 20000
	items := []api.Item{node(api.Root, directory(0))}
	for i := range uint32(many) {
		name := numberBytes(uint64(i)+1<<24, 4)
		name = strings.NewReplacer("\x00", "zero", "/", "slash").Replace(name)
		items = append(items, node(i+2, file(0, 2, 200)), chunk(i+2, 0, "x"), chunk(i+2, 1, "y"),
			entry(api.Root, name, i+2), entry(api.Root, name+"x", i+2))
	}
	got, why := delta.Seen(volume(items...))
	if why != api.OK || len(got) != 2*many+1 {
		t.Fatalf("Seen: %d, error %d", len(got), why)
	}
	for _, s := range got[1:] {
		if s.Text != "x"+zeros(127)+"y"+zeros(71) {
			t.Fatalf("%q: %q", s.Path, s.Text)
		}
	}
}

// 17.2: of what is no right volume nothing is seen.
func TestWrongVolumes(t *testing.T) {
	right := sample()
	for i, l := range wrongVolumes() {
		if got, why := delta.Seen(l); got != nil || why != api.ErrBad {
			t.Errorf("Seen of %d: %v, error %d", i, got, why)
		}
		for _, two := range [][2][]api.Item{{l, right}, {right, l}, {l, l}} {
			if got, why := delta.Paths(two[0], two[1]); got != nil || why != api.ErrBad {
				t.Errorf("Paths of %d: %v, error %d", i, got, why)
			}
		}
	}
}

func isNew(path string) api.Delta   { return api.Delta{Path: path, Kind: api.DeltaNew} }
func isGone(path string) api.Delta  { return api.Delta{Path: path, Kind: api.DeltaGone} }
func isOther(path string) api.Delta { return api.Delta{Path: path, Kind: api.DeltaOther} }

// 17.2: the paths that are seen of one alone, or of both otherwise.
func TestPaths(t *testing.T) {
	l := sample()
	var all []api.Delta
	for _, s := range sampleSeen()[1:] {
		all = append(all, isNew(s.Path))
	}
	fileOther := []api.Delta{isOther("/a/c/h"), isOther("/a/h"), isOther("/f")}
	for _, x := range []struct {
		what string
		b    []api.Item
		want []api.Delta
	}{
		{"nothing", l, nil},
		{"the root's mode", with(l, node(api.Root, directory(0))), []api.Delta{isOther("/")}},
		{"the root's attribute", with(l, attr(api.Root, "root", "x")), []api.Delta{isOther("/")}},
		{"a directory's mode", with(l, node(inA, directory(0))), []api.Delta{isOther("/a")}},
		{"one attribute more", with(l, attr(inB, "k", "")), []api.Delta{isOther("/b")}},
		{"one attribute less", without(l, attr(inC, "k", "")), []api.Delta{isOther("/a/c")}},
		{"another attribute", with(without(l, attr(inC, "k", "")), attr(inC, "l", "v")), []api.Delta{isOther("/a/c")}},
		{"a link's mode", with(l, node(inLink, link(5, "/"))), []api.Delta{isOther("/a/c/up")}},
		{"a link's target", with(l, node(inLink, link(4, "/a"))), []api.Delta{isOther("/a/c/up")}},
		{"a file's mode", with(l, node(inFile, file(4, 3, 310))), fileOther},
		{"a file's size", with(l, node(inFile, file(3, 3, 311))), fileOther},
		{"a file's byte", with(l, chunk(inFile, 2, "x\x00z")), fileOther},
		{"a file's chunk", with(l, chunk(inFile, 1, "x")), fileOther},
		{"a file's attribute", with(l, attr(inFile, "k", "")), fileOther},
		{"a new name", with(l, entry(inB, "h", inFile), node(inFile, file(3, 4, 310))), []api.Delta{isNew("/b/h")}},
		{"a name less", without(with(l, node(inFile, file(3, 2, 310))), entry(inC, "h", 0)), []api.Delta{isGone("/a/c/h")}},
		{"another name", with(without(l, entry(api.Root, "b", 0)), entry(api.Root, "bb", inB)), []api.Delta{isGone("/b"), isNew("/bb")}},
		{"a new file", with(l, node(77, file(0, 1, 0)), entry(inB, "x", 77)), []api.Delta{isNew("/b/x")}},
		{"a file for a directory", with(l, node(inB, file(2, 1, 0))), []api.Delta{isOther("/b")}},
		{"a link for a file", with(l, node(inMore, link(6, "\x01\x01"))), []api.Delta{isOther("/a0")}},
		{"a directory that is moved", with(without(l, entry(inA, "c", 0)), entry(inB, "c", inC)),
			[]api.Delta{isGone("/a/c"), isGone("/a/c/h"), isGone("/a/c/up"), isNew("/b/c"), isNew("/b/c/h"), isNew("/b/c/up")}},
	} {
		wantPaths(t, x.what, l, x.b, x.want...)
	}
	wantPaths(t, "all", volume(node(api.Root, directory(0o755)), attr(api.Root, "root", "")), l, all...)
}

// 17.2: what is not seen is not told: numbers of inodes, how often they are named, which names are one inode's.
func TestPathsOfWhatIsNotSeen(t *testing.T) {
	root := node(api.Root, directory(0))
	hard := volume(root, node(2, file(0, 2, 5)), entry(api.Root, "a", 2), entry(api.Root, "b", 2), chunk(2, 0, "bytes"), attr(2, "k", "v"))
	two := volume(root, node(4, file(0, 1, 5)), node(300, file(0, 1, 5)), entry(api.Root, "a", 300), entry(api.Root, "b", 4),
		chunk(4, 0, "bytes"), chunk(300, 0, "bytes"), attr(4, "k", "v"), attr(300, "k", "v"))
	wantPaths(t, "one file or two", hard, two)
	wantPaths(t, "and then written", hard, with(two, chunk(4, 0, "bites")), isOther("/b"))
}

// 17.2, example 1: a file that was written.
func TestExample(t *testing.T) {
	l := sample()
	wantPaths(t, "a file written", l, with(l, chunk(inMore, 0, "ab")), isOther("/a0"))
}

// 17.3: what is handed in stays as it is, and no two lists of an answer are one.
func TestNewMemory(t *testing.T) {
	a, b := slices.Grow(sample(), 8), slices.Grow(dirs.New(), 8)
	got, _ := delta.Seen(a)
	again, _ := delta.Seen(a)
	delta.Paths(a, b)
	if !slices.Equal(a, sample()) || !slices.Equal(b, dirs.New()) || a[:cap(a)][len(a)] != (api.Item{}) {
		t.Errorf("what was handed in was changed")
	}
	for i := range a {
		a[i] = api.Item{Key: "overwritten"}
	}
	want := sampleSeen()
	for i := range got {
		if !same(got[i], want[i]) {
			t.Errorf("%q changed with the list, or with one ahead of it: %v", want[i].Path, got[i])
		}
		for j := range got[i].Attrs {
			got[i].Attrs[j] = api.Item{Key: "overwritten"}
		}
		_ = append(got[i].Attrs, api.Item{Key: "overwritten"})
	}
	if !slices.EqualFunc(again, want, same) {
		t.Errorf("an answer changed with another one: %v", again)
	}
}
