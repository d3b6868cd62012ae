package files_test

import (
	"testing"

	"cambium/api"
)

// 15.1: OpStat, a link not followed, if N is above 0.
func TestStat(t *testing.T) {
	for p, ino := range map[string]uint32{"/": api.Root, "/a": inA, "/b": inB, "/l": inC, "/l/up": api.Root, "/a/l": inC, "/l/up/l": inC} {
		wantTold(t, sample(), api.Op{Kind: api.OpStat, Path: p, To: "x", Off: 1, Mode: 1, Data: "x"}, api.Told{Ino: ino, Inode: directory()})
	}
	for _, n := range []uint32{1, 2, 1 << 31} {
		for p, x := range map[string]api.Told{
			"/":       {Ino: api.Root, Inode: directory()},
			"/f":      {Ino: inFile, Inode: file(3, 300)},
			"/l":      {Ino: inLink, Inode: link(2, "/a/c")},
			"/a/l":    {Ino: inLink, Inode: link(2, "/a/c")},
			"/l/up":   {Ino: inUp, Inode: link(1, "/")},
			"/l/up/a": {Ino: inA, Inode: directory()},
			"/lost":   {Ino: inLost, Inode: link(1, "/none")},
			"/loop":   {Ino: inLoop, Inode: link(1, "/loop")},
			"/bad":    {Ino: inBad, Inode: link(1, "bad")},
		} {
			wantTold(t, sample(), api.Op{Kind: api.OpStat, Path: p, N: n}, x)
		}
	}
	wantTold(t, sample(), api.Op{Kind: api.OpStat, Path: "/l/h"}, api.Told{Ino: inFile, Inode: file(3, 300)})
}

// 15.1: OpList, rising by name, each with the kind of its inode.
func TestList(t *testing.T) {
	inside := []api.Entry{{Name: "h", Ino: inFile, Kind: api.FileData}, {Name: "up", Ino: inUp, Kind: api.FileLink}}
	for _, p := range []string{"/a/c", "/l", "/a/l", "/l/up/l"} {
		wantTold(t, sample(), api.Op{Kind: api.OpList, Path: p, N: 1, Off: 1, To: "x"}, api.Told{Entries: inside})
	}
	wantTold(t, sample(), api.Op{Kind: api.OpList, Path: "/b"}, api.Told{})
	whole := []api.Entry{{Name: "a", Ino: inA, Kind: api.FileDir}, {Name: "b", Ino: inB, Kind: api.FileDir}, {Name: "bad", Ino: inBad, Kind: api.FileLink},
		{Name: "f", Ino: inFile, Kind: api.FileData}, {Name: "l", Ino: inLink, Kind: api.FileLink}, {Name: "loop", Ino: inLoop, Kind: api.FileLink},
		{Name: "lost", Ino: inLost, Kind: api.FileLink}, {Name: "one", Ino: inOne, Kind: api.FileData}}
	wantTold(t, sample(), api.Op{Kind: api.OpList, Path: "/"}, api.Told{Entries: whole})
	wantTold(t, sample(), api.Op{Kind: api.OpList, Path: "/l/up"}, api.Told{Entries: whole})
	for _, p := range []string{"/f", "/l/h", "/one"} {
		wantError(t, sample(), api.Op{Kind: api.OpList, Path: p}, api.ErrFile)
	}
}

// 15.1: OpMode, of what Path leads to.
func TestMode(t *testing.T) {
	op := func(p string, mode uint16) api.Op {
		return api.Op{Kind: api.OpMode, Path: p, Mode: mode, N: 1, Off: 1, To: "x", Data: "x"}
	}
	moded := func(n api.Inode, mode uint16) api.Inode { n.Mode = mode; return n }
	for _, mode := range []uint16{1, 0x1234, 0xffff} {
		wantChanges(t, sample(), op("/", mode), is(node(api.Root, moded(directory(), mode))))
		wantChanges(t, sample(), op("/f", mode), is(node(inFile, moded(file(3, 300), mode))))
		wantChanges(t, sample(), op("/l", mode), is(node(inC, moded(directory(), mode))))
		wantChanges(t, sample(), op("/l/up", mode), is(node(api.Root, moded(directory(), mode))))
		wantChanges(t, done(t, sample(), op("/b", mode)), op("/b", mode))
		wantChanges(t, done(t, sample(), op("/b", mode)), op("/b", 0), is(node(inB, directory())))
	}
	wantChanges(t, sample(), op("/a", 0))
}

// 15.1: attributes, of what Path leads to.
func TestAttributes(t *testing.T) {
	op := func(kind api.OpKind, p, name, val string) api.Op {
		return api.Op{Kind: kind, Path: p, To: name, Data: val, N: 1, Off: 1, Mode: 1}
	}
	for p, ino := range map[string]uint32{"/": api.Root, "/a/c": inC, "/l": inC, "/f": inFile, "/l/up": api.Root, "/b": inB} {
		wantChanges(t, sample(), op(api.OpSetAttr, p, "k", "new"), is(attr(ino, "k", "new")))
		wantChanges(t, sample(), op(api.OpSetAttr, p, "new", ""), is(attr(ino, "new", "")))
		wantChanges(t, sample(), op(api.OpSetAttr, p, letters(api.MaxName), zeros(api.MaxAttr)), is(attr(ino, letters(api.MaxName), zeros(api.MaxAttr))))
		wantChanges(t, sample(), op(api.OpDropAttr, p, "k", letters(api.MaxAttr+1)), gone(attr(ino, "k", "")))
		wantError(t, sample(), op(api.OpSetAttr, p, "k", letters(api.MaxAttr+1)), api.ErrLong)
		wantError(t, sample(), op(api.OpSetAttr, p, "new", letters(1000)), api.ErrLong)
		for _, name := range []string{"", ".", "..", "k/", "k\x00", letters(api.MaxName + 1)} {
			wantError(t, sample(), op(api.OpSetAttr, p, name, letters(api.MaxAttr+1)), api.ErrName)
			wantError(t, sample(), op(api.OpGetAttr, p, name, ""), api.ErrName)
			wantError(t, sample(), op(api.OpDropAttr, p, name, ""), api.ErrName)
		}
		for _, name := range []string{"none", "kkk", "K", "j"} {
			wantError(t, sample(), op(api.OpGetAttr, p, name, ""), api.ErrNone)
			wantError(t, sample(), op(api.OpDropAttr, p, name, ""), api.ErrNone)
		}
	}
	for p, val := range map[string]string{"/": "", "/a/c": "v", "/l": "v", "/f": letters(api.MaxAttr), "/l/up": "", "/b": "v"} {
		wantTold(t, sample(), op(api.OpGetAttr, p, "k", letters(api.MaxAttr+1)), api.Told{Text: val})
	}
	wantChanges(t, sample(), op(api.OpSetAttr, "/b", "k", "v"))
	wantChanges(t, sample(), op(api.OpSetAttr, "/", "k", ""))
}

// 15.1, the example.
func TestExample(t *testing.T) {
	l := []api.Item{node(api.Root, directory())}
	l = done(t, l, api.Op{Kind: api.OpMkdir, Path: "/a"})
	l = done(t, l, api.Op{Kind: api.OpMake, Path: "/a/b"})
	l = done(t, l, api.Op{Kind: api.OpWrite, Path: "/a/b", Off: 2, Data: "x"})
	wantTold(t, l, api.Op{Kind: api.OpStat, Path: "/a/b"}, api.Told{Ino: 3, Inode: file(1, 3)})
	l = done(t, l, api.Op{Kind: api.OpRename, Path: "/a", To: "/c"})
	wantTold(t, l, api.Op{Kind: api.OpStat, Path: "/c/b"}, api.Told{Ino: 3, Inode: file(1, 3)})
	wantTold(t, l, api.Op{Kind: api.OpRead, Path: "/c/b", N: 9}, api.Told{Text: "\x00\x00x"})
	wantError(t, l, api.Op{Kind: api.OpRead, Path: "/a/b", N: 9}, api.ErrNone)
}
