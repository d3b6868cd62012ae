package files_test

import (
	"math"
	"strconv"
	"testing"

	"cambium/api"
)

// 15.1: an inode of the least number that is free, of that Mode, and an entry of it.
func TestMake(t *testing.T) {
	made := api.Inode{Kind: api.FileData, Mode: 0x1234, Links: 1}
	for p, dir := range map[string]uint32{"/new": api.Root, "/b/new": inB, "/a/c/new": inC, "/l/new": inC, "/a/c/up/new": api.Root, "/a/c/up/l/new": inC} {
		op := api.Op{Kind: api.OpMake, Path: p, Mode: 0x1234, To: "no matter", Off: 1, N: 2, Data: "no matter"}
		wantChanges(t, sample(), op, is(entry(dir, "new", inFree)), is(node(inFree, made)))
		op.Kind = api.OpMkdir
		wantChanges(t, sample(), op, is(entry(dir, "new", inFree)), is(node(inFree, api.Inode{Kind: api.FileDir, Mode: 0x1234, Links: 1})))
		op.Kind = api.OpLink
		wantChanges(t, sample(), op, is(entry(dir, "new", inFree)),
			is(node(inFree, api.Inode{Kind: api.FileLink, Mode: 0x1234, Links: 1, Size: 9, Target: "no matter"})))
	}
	longest := letters(api.MaxName)
	wantChanges(t, sample(), api.Op{Kind: api.OpMake, Path: "/" + longest, Mode: math.MaxUint16},
		is(entry(api.Root, longest, inFree)), is(node(inFree, api.Inode{Kind: api.FileData, Mode: math.MaxUint16, Links: 1})))
}

// 15.1: the least number that is free, whatever is there.
func TestMakeTakesTheLeastNumber(t *testing.T) {
	l := []api.Item{node(api.Root, directory())}
	for ino := uint32(2); ino < 10; ino++ {
		name := "n" + strconv.Itoa(int(ino))
		op := api.Op{Kind: api.OpMkdir, Path: "/" + name}
		wantChanges(t, l, op, is(entry(api.Root, name, ino)), is(node(ino, directory())))
		l = done(t, l, op)
	}
	l = done(t, l, api.Op{Kind: api.OpRmdir, Path: "/n7"})
	l = done(t, l, api.Op{Kind: api.OpRmdir, Path: "/n4"})
	wantChanges(t, l, api.Op{Kind: api.OpMake, Path: "/n7"}, is(entry(api.Root, "n7", 4)), is(node(4, file(1, 0))))
}

// 15.1: ErrTwice of what is something, be it a link that leads to nothing.
func TestMakeOfWhatIsThere(t *testing.T) {
	for _, kind := range []api.OpKind{api.OpMake, api.OpMkdir, api.OpLink} {
		for _, p := range []string{"/a", "/b", "/f", "/l", "/lost", "/loop", "/bad", "/a/c", "/a/h", "/l/h", "/l/up", "/l/up/one"} {
			for _, to := range []string{"/new", "", zeros(1), letters(api.MaxTarget + 1)} {
				wantError(t, sample(), api.Op{Kind: kind, Path: p, To: to}, api.ErrTwice)
			}
		}
	}
}

// 15.1: a link's Target is To, be it a path or not.
func TestTargets(t *testing.T) {
	for _, to := range []string{"/", "/a", "/none", "no path", "//", "\n", "\xff", letters(api.MaxTarget), "/" + letters(api.MaxTarget-1)} {
		wantChanges(t, sample(), api.Op{Kind: api.OpLink, Path: "/b/new", To: to},
			is(entry(inB, "new", inFree)), is(node(inFree, link(1, to))))
	}
	for _, to := range []string{"", zeros(1), "/a\x00", "\x00a", letters(api.MaxTarget + 1), letters(api.MaxVal), letters(1 << 16)} {
		wantError(t, sample(), api.Op{Kind: api.OpLink, Path: "/b/new", To: to}, api.ErrForm)
		wantChanges(t, sample(), api.Op{Kind: api.OpMake, Path: "/b/new", To: to}, is(entry(inB, "new", inFree)), is(node(inFree, file(1, 0))))
		wantChanges(t, sample(), api.Op{Kind: api.OpMkdir, Path: "/b/new", To: to}, is(entry(inB, "new", inFree)), is(node(inFree, directory())))
	}
}

// 15.1: To names what Path leads to, a link not followed.
func TestHard(t *testing.T) {
	op := api.Op{Kind: api.OpHard, Path: "/f", To: "/b/new", Mode: 7, N: 1, Off: 1, Data: "a"}
	wantChanges(t, sample(), op, is(entry(inB, "new", inFile)), is(node(inFile, file(4, 300))))
	op.Path = "/l/h"
	wantChanges(t, sample(), op, is(entry(inB, "new", inFile)), is(node(inFile, file(4, 300))))
	op.To = "/l/up/new"
	wantChanges(t, sample(), op, is(entry(api.Root, "new", inFile)), is(node(inFile, file(4, 300))))
	op.Path = "/l"
	wantChanges(t, sample(), op, is(entry(api.Root, "new", inLink)), is(node(inLink, link(3, "/a/c"))))
	op.Path = "/lost"
	wantChanges(t, sample(), op, is(entry(api.Root, "new", inLost)), is(node(inLost, link(2, "/none"))))
	for _, p := range []string{"/f", "/one", "/l", "/lost"} {
		for _, to := range []string{"/a", "/b", "/f", "/one", "/l", "/lost", "/loop", "/l/h", "/l/up", p} {
			wantError(t, sample(), api.Op{Kind: api.OpHard, Path: p, To: to}, api.ErrTwice)
		}
	}
}

// named is a volume of a file /f with n names, the others below /d.
func named(n int) []api.Item {
	items := []api.Item{node(api.Root, directory()), node(2, directory()), entry(api.Root, "d", 2),
		node(3, file(uint32(n), 0)), entry(api.Root, "f", 3)}
	for i := range n - 1 {
		items = append(items, entry(2, "f"+strconv.Itoa(i), 3))
	}
	return volume(items...)
}

// 15.1: an inode has no more than MaxHard names by that; one that has more is told from To's errors on, too.
func TestMostNames(t *testing.T) {
	op := api.Op{Kind: api.OpHard, Path: "/f", To: "/new"}
	wantChanges(t, named(api.MaxHard-1), op, is(entry(api.Root, "new", 3)), is(node(3, file(api.MaxHard, 0))))
	for _, n := range []int{api.MaxHard, api.MaxHard + 1, 2 * api.MaxHard} {
		for _, to := range []string{"/new", "", "no path", "/f", "/", "/f/x", "/none/x"} {
			wantError(t, named(n), api.Op{Kind: api.OpHard, Path: "/f", To: to}, api.ErrRange)
		}
		wantChanges(t, named(n), api.Op{Kind: api.OpUnlink, Path: "/d/f0"}, gone(entry(2, "f0", 3)), is(node(3, file(uint32(n-1), 0))))
	}
}
