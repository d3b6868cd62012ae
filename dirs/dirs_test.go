package dirs_test

import (
	"math"
	"slices"
	"strconv"
	"testing"

	"cambium/api"
	"cambium/dirs"
)

// 14.1, 14.5: a new volume is right, and has nothing but Root.
func TestNew(t *testing.T) {
	l := dirs.New()
	if !slices.Equal(l, []api.Item{{Key: "i\x00\x00\x00\x01", Val: "\x01\x00\x00\x00\x00\x00\x01\x00\x00\x00\x00\x00\x00"}}) {
		t.Errorf("New: %q", l)
	}
	wantCheck(t, "a new one", l, api.OK)
	if n, why := dirs.Get(l, api.Root); n != directory() || why != api.OK {
		t.Errorf("Get of the root: %v, error %d", n, why)
	}
	wantList(t, l, api.Root)
	wantWalk(t, l, nil, true, api.Root, api.OK)
	wantWalk(t, l, []string{"a"}, true, 0, api.ErrNone)
	if ino, why := dirs.Next(l); ino != 2 || why != api.OK {
		t.Errorf("Next: %d, error %d", ino, why)
	}
}

// 14.1: an inode that is there, and one that is not.
func TestGet(t *testing.T) {
	linked := link("/a/c")
	linked.Links = 2
	for ino, want := range map[uint32]api.Inode{
		api.Root: directory(), inA: directory(), inB: directory(), inC: directory(), inFile: file(3, 300), inLink: linked, inUp: link("/"),
	} {
		if n, why := dirs.Get(sample(), ino); n != want || why != api.OK {
			t.Errorf("Get of %d: %v, error %d, not %v", ino, n, why, want)
		}
	}
	for _, ino := range []uint32{0, 4, 8, 10, 1 << 8, 1 << 24, math.MaxUint32} {
		if n, why := dirs.Get(sample(), ino); n != (api.Inode{}) || why != api.ErrNone {
			t.Errorf("Get of %d: %v, error %d", ino, n, why)
		}
	}
	moded := api.Inode{Kind: api.FileDir, Mode: 0x1234, Links: 1}
	if n, why := dirs.Get([]api.Item{node(api.Root, moded)}, api.Root); n != moded || why != api.OK {
		t.Errorf("Get of a root with a Mode: %v, error %d", n, why)
	}
}

// 14.1: the least number from 2 on of which there is no inode.
func TestNext(t *testing.T) {
	for _, x := range []struct {
		there []uint32
		want  uint32
	}{
		{nil, 2},
		{[]uint32{2}, 3},
		{[]uint32{3}, 2},
		{[]uint32{2, 3, 4}, 5},
		{[]uint32{2, 4}, 3},
		{[]uint32{3, 2, 6, 5}, 4},
		{[]uint32{2, math.MaxUint32}, 3},
	} {
		l := dirs.New()
		for i, ino := range x.there {
			l = with(l, entry(api.Root, letters(i+1), ino), node(ino, file(1, 0)))
		}
		if ino, why := dirs.Next(l); ino != x.want || why != api.OK {
			t.Errorf("Next to %v: %d, error %d", x.there, ino, why)
		}
	}
	if ino, why := dirs.Next(sample()); ino != 4 || why != api.OK {
		t.Errorf("Next to the sample's: %d, error %d", ino, why)
	}
	l := dirs.New()
	for ino := uint32(2); ino < 300; ino++ {
		l = append(l, entry(api.Root, strconv.Itoa(int(ino)), ino), node(ino, file(1, 0)))
	}
	if ino, why := dirs.Next(volume(l...)); ino != 300 || why != api.OK {
		t.Errorf("Next to many: %d, error %d", ino, why)
	}
}

// 14.2: the entries of a directory, rising by name, each with the kind of its inode.
func TestList(t *testing.T) {
	l := sample()
	wantList(t, l, api.Root,
		api.Entry{Name: "a", Ino: inA, Kind: api.FileDir}, api.Entry{Name: "b", Ino: inB, Kind: api.FileDir},
		api.Entry{Name: "f", Ino: inFile, Kind: api.FileData}, api.Entry{Name: "l", Ino: inLink, Kind: api.FileLink})
	wantList(t, l, inA,
		api.Entry{Name: "c", Ino: inC, Kind: api.FileDir}, api.Entry{Name: "h", Ino: inFile, Kind: api.FileData},
		api.Entry{Name: "l", Ino: inLink, Kind: api.FileLink})
	wantList(t, l, inB)
	wantList(t, l, inC, api.Entry{Name: "h", Ino: inFile, Kind: api.FileData}, api.Entry{Name: "up", Ino: inUp, Kind: api.FileLink})
	for ino, want := range map[uint32]api.Errno{
		0: api.ErrNone, 4: api.ErrNone, 8: api.ErrNone, math.MaxUint32: api.ErrNone, inFile: api.ErrFile, inLink: api.ErrFile, inUp: api.ErrFile,
	} {
		if got, why := dirs.List(l, ino); got != nil || why != want {
			t.Errorf("List of %d: %v, error %d, not %d", ino, got, why, want)
		}
	}
}

// 14.2: names stand as their bytes do.
func TestListInOrder(t *testing.T) {
	names := []string{"\x01", " ", "-", "...", "0", "A", "Z", "a", "a\x01", "a.", "aa", letters(api.MaxName), "z", "\x7f", "\xff", "\xff\xff"}
	slices.Sort(names)
	l := dirs.New()
	var want []api.Entry
	for i, name := range names {
		ino := uint32(100 - i)
		l = with(l, entry(api.Root, name, ino), node(ino, file(1, 0)))
		want = append(want, api.Entry{Name: name, Ino: ino, Kind: api.FileData})
	}
	wantList(t, l, api.Root, want...)
}

// 14.2: along names of directories and files.
func TestWalk(t *testing.T) {
	l := sample()
	for _, follow := range []bool{false, true} {
		wantWalk(t, l, nil, follow, api.Root, api.OK)
		wantWalk(t, l, []string{}, follow, api.Root, api.OK)
		wantWalk(t, l, []string{"a"}, follow, inA, api.OK)
		wantWalk(t, l, []string{"b"}, follow, inB, api.OK)
		wantWalk(t, l, []string{"f"}, follow, inFile, api.OK)
		wantWalk(t, l, []string{"a", "h"}, follow, inFile, api.OK)
		wantWalk(t, l, []string{"a", "c"}, follow, inC, api.OK)
		wantWalk(t, l, []string{"a", "c", "h"}, follow, inFile, api.OK)
		wantWalk(t, l, []string{"l", "h"}, follow, inFile, api.OK)
		wantWalk(t, l, []string{"l", "up", "b"}, follow, inB, api.OK)
		wantWalk(t, l, []string{"a", "c", "up", "a", "l", "up", "l", "h"}, follow, inFile, api.OK)
		wantWalk(t, l, []string{"c"}, follow, 0, api.ErrNone)
		wantWalk(t, l, []string{"c", "f", "x"}, follow, 0, api.ErrNone)
		wantWalk(t, l, []string{"b", "a"}, follow, 0, api.ErrNone)
		wantWalk(t, l, []string{"a", "a"}, follow, 0, api.ErrNone)
		wantWalk(t, l, []string{"l", "l"}, follow, 0, api.ErrNone)
		wantWalk(t, l, []string{"f", "x"}, follow, 0, api.ErrFile)
		wantWalk(t, l, []string{"f", ""}, follow, 0, api.ErrFile)
		wantWalk(t, l, []string{"a", "h", "a", "b"}, follow, 0, api.ErrFile)
		wantWalk(t, l, []string{"l", "h", "f"}, follow, 0, api.ErrFile)
		for _, name := range []string{"", ".", "..", "/", "a/c", "\x00", "a\x00", "A", letters(api.MaxName), letters(api.MaxName + 1), letters(1 << 10)} {
			wantWalk(t, l, []string{name}, follow, 0, api.ErrNone)
			wantWalk(t, l, []string{"a", name, "h"}, follow, 0, api.ErrNone)
		}
	}
}

// 14.2: a link that is the last is followed, if it is to be; any other one is.
func TestWalkAlongLinks(t *testing.T) {
	l := sample()
	wantWalk(t, l, []string{"l"}, false, inLink, api.OK)
	wantWalk(t, l, []string{"l"}, true, inC, api.OK)
	wantWalk(t, l, []string{"a", "l"}, false, inLink, api.OK)
	wantWalk(t, l, []string{"a", "l"}, true, inC, api.OK)
	wantWalk(t, l, []string{"a", "c", "up"}, false, inUp, api.OK)
	wantWalk(t, l, []string{"a", "c", "up"}, true, api.Root, api.OK)
	wantWalk(t, l, []string{"l", "up"}, false, inUp, api.OK)
	wantWalk(t, l, []string{"l", "up"}, true, api.Root, api.OK)
	wantWalk(t, l, []string{"l", "up", "l"}, false, inLink, api.OK)
	wantWalk(t, l, []string{"l", "up", "l"}, true, inC, api.OK)
	wantWalk(t, l, []string{"a", "l", "up", "a", "c", "up", "f"}, false, inFile, api.OK)
	wantWalk(t, l, []string{"a", "c", "up", "x"}, true, 0, api.ErrNone)
	wantWalk(t, l, []string{"l", "up", "f", "x"}, true, 0, api.ErrFile)
}

// linked is a new volume with links, by name, and the directory b with the file f.
func linked(links map[string]string) []api.Item {
	l := with(dirs.New(), entry(api.Root, "b", 2), node(2, directory()), entry(2, "f", 3), node(3, file(1, 0)))
	names := make([]string, 0, len(links))
	for name := range links {
		names = append(names, name)
	}
	slices.Sort(names)
	for i, name := range names {
		ino := uint32(10 + i)
		l = with(l, entry(api.Root, name, ino), node(ino, link(links[name])))
	}
	return l
}

// 14.2: MaxLinks are gone along, and no more.
func TestWalkAlongManyLinks(t *testing.T) {
	l := linked(map[string]string{"0": "/1", "1": "/2", "2": "/3", "3": "/4", "4": "/5", "5": "/6", "6": "/7", "7": "/8", "8": "/b"})
	for _, follow := range []bool{false, true} {
		wantWalk(t, l, []string{"1", "f"}, follow, 3, api.OK)
		wantWalk(t, l, []string{"0", "f"}, follow, 0, api.ErrLoop)
		wantWalk(t, l, []string{"0", "x", "y"}, follow, 0, api.ErrLoop)
		wantWalk(t, l, []string{"1", "x"}, follow, 0, api.ErrNone)
		wantWalk(t, l, []string{"1", "f", "x"}, follow, 0, api.ErrFile)
	}
	wantWalk(t, l, []string{"1"}, true, 2, api.OK)
	wantWalk(t, l, []string{"0"}, true, 0, api.ErrLoop)
	wantWalk(t, l, []string{"0"}, false, 10, api.OK)
	up := linked(map[string]string{"u": "/", "uu": "/u/u/u/u", "to": "/u/u/b"})
	wantWalk(t, up, []string{"u", "u", "u", "u", "u", "u", "u", "u"}, true, api.Root, api.OK)
	wantWalk(t, up, []string{"u", "u", "u", "u", "u", "u", "u", "u", "b", "f"}, true, 3, api.OK)
	wantWalk(t, up, []string{"u", "u", "u", "u", "u", "u", "u", "u", "u"}, true, 0, api.ErrLoop)
	wantWalk(t, up, []string{"u", "u", "u", "u", "u", "u", "u", "u", "u"}, false, 11, api.OK)
	wantWalk(t, up, []string{"u", "u", "u", "u", "u", "u", "u", "u", "u", "b"}, false, 0, api.ErrLoop)
	wantWalk(t, up, []string{"uu", "u", "u", "u", "b"}, true, 2, api.OK)
	wantWalk(t, up, []string{"uu", "u", "u", "u", "u", "b"}, true, 0, api.ErrLoop)
	wantWalk(t, up, []string{"uu", "to", "f"}, true, 3, api.OK)
	wantWalk(t, up, []string{"uu", "uu"}, true, 0, api.ErrLoop)
	wantWalk(t, up, []string{"uu", "to", "u", "b"}, true, 0, api.ErrNone)
}

// 14.2: links that lead to themselves, and to each other.
func TestWalkRound(t *testing.T) {
	l := linked(map[string]string{"self": "/self", "tic": "/tac", "tac": "/tic", "more": "/more/b"})
	for _, name := range []string{"self", "tic", "tac", "more"} {
		wantWalk(t, l, []string{name}, true, 0, api.ErrLoop)
		wantWalk(t, l, []string{name, "f"}, true, 0, api.ErrLoop)
		wantWalk(t, l, []string{name, "f"}, false, 0, api.ErrLoop)
		if ino, why := dirs.Walk(l, []string{name}, false); ino < 10 || why != api.OK {
			t.Errorf("Walk along %q, not followed: %d, error %d", name, ino, why)
		}
	}
}

// 14.2: where a link leads is to be a path; that it is none is told when one would go along it, behind ErrLoop.
func TestWalkAlongWrongTargets(t *testing.T) {
	for _, target := range []string{"a", "b/f", "//", "/b/", "/b//f", "/.", "/../b", ".", "/" + letters(api.MaxName+1)} {
		l := linked(map[string]string{"w": target, "1": "/w", "2": "/1", "3": "/2", "4": "/3", "5": "/4", "6": "/5", "7": "/6", "8": "/7"})
		wantWalk(t, l, []string{"w"}, false, 18, api.OK)
		wantWalk(t, l, []string{"w"}, true, 0, api.ErrName)
		wantWalk(t, l, []string{"w", "x"}, false, 0, api.ErrName)
		wantWalk(t, l, []string{"7"}, true, 0, api.ErrName)
		wantWalk(t, l, []string{"8"}, true, 0, api.ErrLoop)
		wantWalk(t, l, []string{"8"}, false, 17, api.OK)
	}
	l := linked(map[string]string{"l": "/b/f", "n": "/b/x", "d": "/b/f/x", "s": "/b"})
	wantWalk(t, l, []string{"l"}, true, 3, api.OK)
	wantWalk(t, l, []string{"l", "x"}, true, 0, api.ErrFile)
	wantWalk(t, l, []string{"n"}, true, 0, api.ErrNone)
	wantWalk(t, l, []string{"d"}, true, 0, api.ErrFile)
	wantWalk(t, l, []string{"s", "f"}, false, 3, api.OK)
	wantWalk(t, l, []string{"s", "s"}, false, 0, api.ErrNone)
}

// The example of the chapter.
func TestExample(t *testing.T) {
	l := volume(node(1, directory()), entry(1, "a", 2), node(2, link("/b")), entry(1, "b", 3), node(3, directory()), entry(3, "c", 4), node(4, file(1, 0)))
	wantWalk(t, l, []string{"a", "c"}, false, 4, api.OK)
	wantWalk(t, l, []string{"b", "c"}, false, 4, api.OK)
}

// 14.3: what is answered is written to, and appended to, and nothing else is otherwise.
func TestNewMemory(t *testing.T) {
	first, second := dirs.New(), dirs.New()
	first[0].Val = "other"
	_ = append(first, api.Item{Key: "other"})
	if second[0].Val == "other" || dirs.New()[0].Val == "other" {
		t.Error("new volumes share memory")
	}
	l := sample()
	one, _ := dirs.List(l, api.Root)
	two, _ := dirs.List(l, api.Root)
	want := slices.Clone(two)
	for i := range one {
		one[i] = api.Entry{Name: "other"}
	}
	_ = append(one, api.Entry{Name: "other"})
	if again, _ := dirs.List(l, api.Root); !slices.Equal(two, want) || !slices.Equal(again, want) {
		t.Error("lists of entries share memory")
	}
}

// 14.3: what is handed in is not changed, nor written to where it has room, and not kept.
func TestHandedIn(t *testing.T) {
	room := append(sample(), api.Item{Key: "z", Val: "behind"})
	l := room[:len(room)-1]
	wantItems := slices.Clone(room)
	names := []string{"l", "up", "a", "c", "h", "behind"}
	wantNames := slices.Clone(names)
	wantWalk(t, l, names[:5], true, inFile, api.OK)
	wantWalk(t, l, names[:2], true, api.Root, api.OK)
	wantWalk(t, l, names[:1], true, inC, api.OK)
	dirs.Check(l)
	dirs.Get(l, inA)
	dirs.Next(l)
	got, _ := dirs.List(l, inA)
	if !slices.Equal(room, wantItems) || !slices.Equal(names, wantNames) {
		t.Errorf("what was handed in is otherwise: %q, %q", room, names)
	}
	want := slices.Clone(got)
	for i := range room {
		room[i] = api.Item{}
	}
	if !slices.Equal(got, want) {
		t.Errorf("what was answered is otherwise: %v", got)
	}
	wantCheck(t, "what was written to", room, api.ErrBad)
}
