package files_test

import (
	"strings"
	"testing"

	"cambium/api"
)

// 15.1: OpUnlink lets go of a name: what has none left is gone, with all that is kept by its number.
func TestUnlink(t *testing.T) {
	op := func(p string) api.Op {
		return api.Op{Kind: api.OpUnlink, Path: p, To: "x", N: 1, Off: 1, Mode: 1, Data: "x"}
	}
	wantChanges(t, sample(), op("/f"), gone(entry(api.Root, "f", 0)), is(node(inFile, file(2, 300))))
	wantChanges(t, sample(), op("/l/h"), gone(entry(inC, "h", 0)), is(node(inFile, file(2, 300))))
	wantChanges(t, sample(), op("/a/l"), gone(entry(inA, "l", 0)), is(node(inLink, link(1, "/a/c"))))
	wantChanges(t, sample(), op("/lost"), gone(entry(api.Root, "lost", 0)), gone(node(inLost, directory())))
	wantChanges(t, sample(), op("/loop"), gone(entry(api.Root, "loop", 0)), gone(node(inLoop, directory())))
	wantChanges(t, sample(), op("/l/up"), gone(entry(inC, "up", 0)), gone(node(inUp, directory())), gone(attr(inUp, "k", "")))
	wantChanges(t, sample(), op("/one"), gone(chunk(inOne, 0, "")), gone(chunk(inOne, 1, "")), gone(entry(api.Root, "one", 0)),
		gone(node(inOne, directory())), gone(attr(inOne, "k", "")), gone(attr(inOne, "kk", "")))
	for _, p := range []string{"/a", "/b", "/a/c", "/l/up/a"} {
		wantError(t, sample(), op(p), api.ErrDir)
	}
	l := done(t, done(t, sample(), op("/f")), op("/a/h"))
	wantChanges(t, l, op("/l/h"), gone(chunk(inFile, 0, "")), gone(chunk(inFile, 2, "")), gone(entry(inC, "h", 0)),
		gone(node(inFile, directory())), gone(attr(inFile, "k", "")), gone(attr(inFile, "kk", "")))
}

// 15.1: OpRmdir, of a directory that has nothing.
func TestRmdir(t *testing.T) {
	op := func(p string) api.Op {
		return api.Op{Kind: api.OpRmdir, Path: p, To: "x", N: 1, Off: 1, Mode: 1, Data: "x"}
	}
	for _, p := range []string{"/b", "/l/up/b", "/a/c/up/b"} {
		wantChanges(t, sample(), op(p), gone(entry(api.Root, "b", 0)), gone(node(inB, directory())), gone(attr(inB, "k", "")))
	}
	for _, p := range []string{"/a", "/a/c", "/l/up/a"} {
		wantError(t, sample(), op(p), api.ErrBusy)
	}
	for _, p := range []string{"/f", "/l", "/a/l", "/l/h", "/l/up", "/one", "/lost", "/loop", "/bad"} {
		wantError(t, sample(), op(p), api.ErrFile)
	}
}

// 15.1: OpRename to a name of nothing: nothing but the entries is otherwise.
func TestRename(t *testing.T) {
	op := func(p, to string) api.Op {
		return api.Op{Kind: api.OpRename, Path: p, To: to, N: 1, Off: 1, Mode: 1, Data: "x"}
	}
	wantChanges(t, sample(), op("/a", "/b/new"), gone(entry(api.Root, "a", 0)), is(entry(inB, "new", inA)))
	wantChanges(t, sample(), op("/f", "/new"), gone(entry(api.Root, "f", 0)), is(entry(api.Root, "new", inFile)))
	wantChanges(t, sample(), op("/one", "/Z"), is(entry(api.Root, "Z", inOne)), gone(entry(api.Root, "one", 0)))
	wantChanges(t, sample(), op("/l", "/b/l"), gone(entry(api.Root, "l", 0)), is(entry(inB, "l", inLink)))
	wantChanges(t, sample(), op("/l/h", "/l/up/new"), is(entry(api.Root, "new", inFile)), gone(entry(inC, "h", 0)))
	wantChanges(t, sample(), op("/a/c", "/b/c"), gone(entry(inA, "c", 0)), is(entry(inB, "c", inC)))
	wantChanges(t, sample(), op("/a/c", "/new"), is(entry(api.Root, "new", inC)), gone(entry(inA, "c", 0)))
	wantChanges(t, sample(), op("/a/c", "/a/new"), gone(entry(inA, "c", 0)), is(entry(inA, "new", inC)))
	wantChanges(t, sample(), op("/l/up", "/l/new"), is(entry(inC, "new", inUp)), gone(entry(inC, "up", 0)))
	wantChanges(t, sample(), op("/lost", "/a/c/new"), gone(entry(api.Root, "lost", 0)), is(entry(inC, "new", inLost)))
	wantChanges(t, sample(), op("/b", "/l/new"), gone(entry(api.Root, "b", 0)), is(entry(inC, "new", inB)))
}

// 15.1: OpRename to a name of something: that is let go of.
func TestRenameToWhatIsThere(t *testing.T) {
	op := func(p, to string) api.Op { return api.Op{Kind: api.OpRename, Path: p, To: to} }
	wantChanges(t, sample(), op("/one", "/f"), is(entry(api.Root, "f", inOne)), gone(entry(api.Root, "one", 0)), is(node(inFile, file(2, 300))))
	wantChanges(t, sample(), op("/one", "/a/l"), gone(entry(api.Root, "one", 0)), is(entry(inA, "l", inOne)), is(node(inLink, link(1, "/a/c"))))
	wantChanges(t, sample(), op("/l", "/lost"), gone(entry(api.Root, "l", 0)), is(entry(api.Root, "lost", inLink)), gone(node(inLost, directory())))
	wantChanges(t, sample(), op("/a/h", "/one"), gone(chunk(inOne, 0, "")), gone(chunk(inOne, 1, "")), is(entry(api.Root, "one", inFile)),
		gone(entry(inA, "h", 0)), gone(node(inOne, directory())), gone(attr(inOne, "k", "")), gone(attr(inOne, "kk", "")))
	for _, p := range []string{"/a/c", "/l/up/a/c"} {
		wantChanges(t, sample(), op(p, "/b"), is(entry(api.Root, "b", inC)), gone(entry(inA, "c", 0)), gone(node(inB, directory())), gone(attr(inB, "k", "")))
	}
	wantChanges(t, sample(), op("/a", "/b"), gone(entry(api.Root, "a", 0)), is(entry(api.Root, "b", inA)), gone(node(inB, directory())), gone(attr(inB, "k", "")))
	for _, to := range []string{"/f", "/l", "/one", "/lost", "/loop", "/bad", "/l/h"} {
		wantError(t, sample(), op("/b", to), api.ErrFile)
	}
	for _, to := range []string{"/f", "/l", "/one"} {
		wantError(t, sample(), op("/a/c", to), api.ErrFile)
	}
	for _, p := range []string{"/f", "/l", "/one", "/lost", "/l/h", "/a/l"} {
		for _, to := range []string{"/a", "/b", "/a/c"} {
			wantError(t, sample(), op(p, to), api.ErrDir)
		}
	}
	for _, to := range []string{"/a", "/a/c"} {
		wantError(t, sample(), op("/b", to), api.ErrBusy)
	}
	wantError(t, sample(), op("/a/c", "/a"), api.ErrBusy)
}

// 15.1: OpRename to another name of the same inode changes nothing.
func TestRenameToTheSame(t *testing.T) {
	for _, x := range [][2]string{{"/f", "/f"}, {"/f", "/a/h"}, {"/l/h", "/f"}, {"/a", "/a"}, {"/a/c", "/l/up/a/c"}, {"/l", "/a/l"}, {"/l", "/l"}, {"/lost", "/lost"}, {"/b", "/b"}} {
		wantChanges(t, sample(), api.Op{Kind: api.OpRename, Path: x[0], To: x[1]})
	}
}

// 15.1: a directory is not brought into itself, whether there is something of that name or not.
func TestRenameIntoItself(t *testing.T) {
	for _, x := range [][2]string{{"/a", "/a/new"}, {"/a", "/a/c"}, {"/a", "/a/h"}, {"/a", "/a/c/new"}, {"/a", "/a/c/h"}, {"/a", "/l/new"}, {"/a", "/l/up/a/l"},
		{"/b", "/b/new"}, {"/a/c", "/l/new"}, {"/a/c", "/l/up/a/c/h"}, {"/a/c", "/a/c/up"}} {
		wantError(t, sample(), api.Op{Kind: api.OpRename, Path: x[0], To: x[1]}, api.ErrState)
	}
	// What is kept by other keys is no matter, be it as an entry's is.
	l := with(sample(), attr(inB, "k", entry(0, "", inC).Val), attr(inUp, "k", entry(0, "", inA).Val))
	wantError(t, l, api.Op{Kind: api.OpRename, Path: "/a", To: "/a/c/new"}, api.ErrState)
	wantChanges(t, l, api.Op{Kind: api.OpRename, Path: "/b", To: "/a/c/new"}, gone(entry(api.Root, "b", 0)), is(entry(inC, "new", inB)))
	// A link is no directory, wherever it leads.
	wantChanges(t, sample(), api.Op{Kind: api.OpRename, Path: "/l", To: "/l/new"}, gone(entry(api.Root, "l", 0)), is(entry(inC, "new", inLink)))
	wantError(t, sample(), api.Op{Kind: api.OpRename, Path: "/l", To: "/l/up/b"}, api.ErrDir)
}

// 15.1: as many levels as a path has.
func TestRenameFarBelow(t *testing.T) {
	l := sample()
	p := "/b"
	for range 126 {
		p += "/k"
		l = done(t, l, api.Op{Kind: api.OpMkdir, Path: p})
	}
	wantError(t, l, api.Op{Kind: api.OpRename, Path: "/b", To: p + "/k"}, api.ErrState)
	wantError(t, l, api.Op{Kind: api.OpRename, Path: "/b/k/k", To: p}, api.ErrState)
	wantError(t, l, api.Op{Kind: api.OpRename, Path: p, To: p + "/k"}, api.ErrState)
	wantChanges(t, l, api.Op{Kind: api.OpRename, Path: p, To: p[:len(p)-1] + "j"},
		is(entry(uint32(inBad+123), "j", uint32(inBad+124))), gone(entry(uint32(inBad+123), "k", 0)))
	wantError(t, l, api.Op{Kind: api.OpMkdir, Path: p + "/k/k"}, api.ErrLong)
	if len(p) != api.MaxPath-2 || strings.Count(p, "/") != 127 {
		t.Errorf("the path has %d bytes", len(p))
	}
}
