package inode_test

import (
	"math"
	"strings"
	"testing"

	"cambium/api"
	"cambium/inode"
)

var longTarget = strings.Repeat("t", api.MaxTarget)

// link is a right link to a target.
func link(target string) api.Inode {
	return api.Inode{Kind: api.FileLink, Links: 1, Size: uint32(len(target)), Target: target}
}

func rightInodes() []api.Inode {
	return []api.Inode{
		{Kind: api.FileDir, Links: 1},
		{Kind: api.FileDir, Mode: 0x0102, Links: 1},
		{Kind: api.FileDir, Mode: math.MaxUint16, Links: 1},
		{Kind: api.FileData, Links: 1},
		{Kind: api.FileData, Mode: 0x1ed, Links: 2, Size: 3},
		{Kind: api.FileData, Links: api.MaxHard, Size: api.MaxFile},
		{Kind: api.FileData, Links: api.MaxHard + 1, Size: api.MaxFile - 1},
		{Kind: api.FileData, Mode: math.MaxUint16, Links: math.MaxUint32, Size: 0x0102},
		link("a"),
		link("/b"),
		link("\xff"),
		link(longTarget),
		link(longTarget[1:]),
		link("//..//\x01"),
		{Kind: api.FileLink, Mode: 0x8001, Links: 0x01020304, Size: 2, Target: "/b"},
		{Kind: api.FileLink, Links: math.MaxUint32, Size: 1, Target: "."},
	}
}

func wrongInodes() []api.Inode {
	return []api.Inode{
		{},
		{Links: 1},
		{Links: 1, Size: 1, Target: "a"},
		{Kind: api.FileCount, Links: 1},
		{Kind: api.FileCount, Links: 1, Size: 1, Target: "a"},
		{Kind: math.MaxUint8, Links: 1},
		{Kind: api.FileDir},
		{Kind: api.FileDir, Links: 2},
		{Kind: api.FileDir, Links: math.MaxUint32},
		{Kind: api.FileDir, Links: 1, Size: 1},
		{Kind: api.FileDir, Links: 1, Size: api.MaxFile},
		{Kind: api.FileDir, Links: 1, Target: "a"},
		{Kind: api.FileDir, Links: 1, Size: 1, Target: "a"},
		{Kind: api.FileData},
		{Kind: api.FileData, Size: 1},
		{Kind: api.FileData, Links: 1, Size: api.MaxFile + 1},
		{Kind: api.FileData, Links: 1, Size: math.MaxUint32},
		{Kind: api.FileData, Links: 1, Target: "a"},
		{Kind: api.FileData, Links: 1, Size: 1, Target: "a"},
		{Kind: api.FileData, Links: 1, Target: "\x00"},
		{Kind: api.FileLink, Size: 1, Target: "a"},
		{Kind: api.FileLink, Links: 1},
		{Kind: api.FileLink, Links: 1, Size: 1},
		{Kind: api.FileLink, Links: 1, Target: "a"},
		{Kind: api.FileLink, Links: 1, Size: 2, Target: "a"},
		{Kind: api.FileLink, Links: 1, Size: 1, Target: "ab"},
		{Kind: api.FileLink, Links: 1, Size: math.MaxUint32, Target: "a"},
		link("\x00"),
		link("\x00a"),
		link("a\x00"),
		link("a\x00b"),
		link(longTarget[1:] + "\x00"),
		link(longTarget + "t"),
		link(strings.Repeat("t", 1<<16-1)),
		link(strings.Repeat("t", 1<<16)),
		{Kind: api.FileLink, Links: 1, Size: api.MaxTarget, Target: longTarget + "t"},
	}
}

// numberBytes are a number's, the highest first.
func numberBytes(n uint64, width int) string {
	var b []byte
	for i := width - 1; i >= 0; i-- {
		b = append(b, byte(n>>(8*i)))
	}
	return string(b)
}

// inodeBytes are any inode's bytes as the words say them, be it right or not.
func inodeBytes(n api.Inode) string {
	return numberBytes(uint64(n.Kind), 1) + numberBytes(uint64(n.Mode), 2) + numberBytes(uint64(n.Links), 4) +
		numberBytes(uint64(n.Size), 4) + numberBytes(uint64(len(n.Target)), 2) + n.Target
}

func wantNoInode(t *testing.T, what, s string) {
	t.Helper()
	if n, why := inode.Decode(s); n != (api.Inode{}) || why != api.ErrForm {
		t.Errorf("Decode of %s: %v, error %d", what, n, why)
	}
}

// 12.1: what a right inode is.
func TestCheck(t *testing.T) {
	for i, n := range rightInodes() {
		if why := inode.Check(n); why != api.OK {
			t.Errorf("right one %d: error %d", i, why)
		}
	}
	for i, n := range wrongInodes() {
		if why := inode.Check(n); why != api.ErrForm {
			t.Errorf("wrong one %d: error %d", i, why)
		}
	}
}

// 12.1: an inode's bytes; one that is not right has none.
func TestEncode(t *testing.T) {
	for _, x := range []struct {
		n    api.Inode
		want string
	}{
		{api.Inode{Kind: api.FileDir, Links: 1}, "\x01\x00\x00\x00\x00\x00\x01\x00\x00\x00\x00\x00\x00"},
		{api.Inode{Kind: api.FileData, Mode: 0x1ed, Links: 2, Size: 0x10000}, "\x02\x01\xed\x00\x00\x00\x02\x00\x01\x00\x00\x00\x00"},
		{api.Inode{Kind: api.FileLink, Mode: 0xff01, Links: 0x01020304, Size: 2, Target: "/b"}, "\x03\xff\x01\x01\x02\x03\x04\x00\x00\x00\x02\x00\x02/b"},
	} {
		if s, why := inode.Encode(x.n); s != x.want || why != api.OK {
			t.Errorf("Encode of %v: %q, error %d", x.n, s, why)
		}
	}
	for i, n := range rightInodes() {
		if s, why := inode.Encode(n); s != inodeBytes(n) || why != api.OK {
			t.Errorf("right one %d: Encode: %q, error %d", i, s, why)
		}
	}
	for i, n := range wrongInodes() {
		if s, why := inode.Encode(n); s != "" || why != api.ErrForm {
			t.Errorf("wrong one %d: Encode: %q, error %d", i, s, why)
		}
	}
}

// 12.1 and 12.4: Decode of Encode is the inode, Encode of Decode the bytes.
func TestInodesThereAndBack(t *testing.T) {
	for i, n := range rightInodes() {
		s := inodeBytes(n)
		got, why := inode.Decode(s)
		if got != n || why != api.OK {
			t.Errorf("%d: Decode(%q): %v, error %d", i, s, got, why)
		}
		if again, why := inode.Encode(got); again != s || why != api.OK {
			t.Errorf("%d: Encode of Decode: %q, error %d", i, again, why)
		}
	}
}

// 12.1: the bytes of an inode that is not right are none.
func TestDecodeOfWrongInodes(t *testing.T) {
	for _, n := range wrongInodes() {
		wantNoInode(t, "a wrong one", inodeBytes(n))
	}
}

// 12.1: no byte may be missing at the end or at the beginning, or stand behind or ahead of them.
func TestDecodeOfTooFewAndTooMany(t *testing.T) {
	for _, n := range rightInodes() {
		s := inodeBytes(n)
		for i := range s {
			wantNoInode(t, "the first ones", s[:i])
			wantNoInode(t, "the last ones", s[i+1:])
		}
		wantNoInode(t, "one behind", s+"\x00")
		wantNoInode(t, "one behind", s+"t")
		wantNoInode(t, "one ahead", "\x00"+s)
		wantNoInode(t, "it twice", s+s)
	}
	wantNoInode(t, "zero bytes", strings.Repeat("\x00", 13))
	wantNoInode(t, "many bytes", strings.Repeat("\x02", 1<<20))
}

// 12.1: each byte counts: with another one it is another inode, or none.
func TestDecodeOfOtherBytes(t *testing.T) {
	for _, n := range rightInodes() {
		s := inodeBytes(n)
		for i := range s {
			for b := range 256 {
				if byte(b) == s[i] {
					continue
				}
				other := s[:i] + string([]byte{byte(b)}) + s[i+1:]
				got, why := inode.Decode(other)
				if why == api.OK && (got == n || inodeBytes(got) != other || inode.Check(got) != api.OK) {
					t.Fatalf("Decode(%q): %v", other, got)
				}
				if why != api.OK && (got != api.Inode{} || why != api.ErrForm) {
					t.Fatalf("Decode(%q): %v, error %d", other, got, why)
				}
			}
		}
	}
}

// 12.1: a text's length that does not go with Size or with the bytes is an error.
func TestDecodeOfOtherLengths(t *testing.T) {
	head := "\x03\x00\x00\x00\x00\x00\x01\x00\x00\x00\x02"
	if n, why := inode.Decode(head + "\x00\x02ab"); n != link("ab") || why != api.OK {
		t.Fatalf("Decode: %v, error %d", n, why)
	}
	for _, tail := range []string{"", "\x00", "\x02", "ab", "\x00\x00", "\x00\x01a", "\x00\x01ab", "\x00\x02", "\x00\x02a", "\x00\x03ab", "\x00\x03abc", "\x00\x02abc", "\x02ab", "\x01\x02ab", "\xff\xffab"} {
		wantNoInode(t, "another length", head+tail)
	}
}
