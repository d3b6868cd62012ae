package inode_test

import (
	"math"
	"strings"
	"testing"

	"cambium/api"
	"cambium/inode"
	"cambium/path"
)

const chunks = api.MaxFile / api.ChunkSize

var longName = strings.Repeat("n", api.MaxName)

// letterOf has by kind the letter that its keys begin with.
var letterOf = map[api.KeyKind]string{api.KeyInode: "i", api.KeyEntry: "d", api.KeyChunk: "c", api.KeyAttr: "x"}

func inos() []uint32 {
	return []uint32{1, 2, 255, 256, 0x01020304, 0x80000000, math.MaxUint32}
}

func rightKeys() []api.Key {
	var l []api.Key
	for _, ino := range inos() {
		l = append(l, api.Key{Kind: api.KeyInode, Ino: ino})
		for _, name := range []string{"a", "ab", "...", "\x01", "\xff\xff\xff\xff", longName, "世"} {
			l = append(l, api.Key{Kind: api.KeyEntry, Ino: ino, Name: name}, api.Key{Kind: api.KeyAttr, Ino: ino, Name: name})
		}
		for _, chunk := range []uint32{0, 1, 255, 256, chunks - 1} {
			l = append(l, api.Key{Kind: api.KeyChunk, Ino: ino, Chunk: chunk})
		}
	}
	return l
}

func wrongKeys() []api.Key {
	l := []api.Key{{}, {Name: "a"}, {Chunk: 1}}
	for _, kind := range []api.KeyKind{api.KeyNone, api.KeyCount, api.KeyCount + 1, 'd', 'i', 'x', 'c', math.MaxUint8} {
		for _, ino := range inos() {
			l = append(l, api.Key{Kind: kind, Ino: ino}, api.Key{Kind: kind, Ino: ino, Name: "a"}, api.Key{Kind: kind, Ino: ino, Chunk: 1})
		}
	}
	for _, k := range rightKeys() {
		k.Ino = 0
		l = append(l, k)
	}
	for _, ino := range inos() {
		for _, name := range []string{"", ".", "..", "/", "a/b", "\x00", "a\x00", longName + "n", strings.Repeat("n", 1<<16)} {
			l = append(l, api.Key{Kind: api.KeyEntry, Ino: ino, Name: name}, api.Key{Kind: api.KeyAttr, Ino: ino, Name: name})
		}
		for _, name := range []string{"a", "\x00", longName} {
			l = append(l, api.Key{Kind: api.KeyInode, Ino: ino, Name: name}, api.Key{Kind: api.KeyChunk, Ino: ino, Name: name})
		}
		for _, chunk := range []uint32{1, chunks - 1, chunks, math.MaxUint32} {
			l = append(l,
				api.Key{Kind: api.KeyInode, Ino: ino, Chunk: chunk},
				api.Key{Kind: api.KeyEntry, Ino: ino, Name: "a", Chunk: chunk},
				api.Key{Kind: api.KeyAttr, Ino: ino, Name: "a", Chunk: chunk})
		}
		for _, chunk := range []uint32{chunks, chunks + 1, api.MaxFile, 1 << 16, math.MaxUint32} {
			l = append(l, api.Key{Kind: api.KeyChunk, Ino: ino, Chunk: chunk})
		}
	}
	return l
}

// keyBytes are any key's bytes as the words say them, be it right or not.
func keyBytes(k api.Key) string {
	s := letterOf[k.Kind] + numberBytes(uint64(k.Ino), 4) + k.Name
	if k.Kind == api.KeyChunk {
		s += numberBytes(uint64(k.Chunk), 4)
	}
	return s
}

func wantNoKey(t *testing.T, what, s string) {
	t.Helper()
	if k, why := inode.Parse(s); k != (api.Key{}) || why != api.ErrForm {
		t.Errorf("Parse of %s %.40q: %v, error %d", what, s, k, why)
	}
}

// 12.2: a key's bytes; one that is not right has none.
func TestKey(t *testing.T) {
	for _, x := range []struct {
		k    api.Key
		want string
	}{
		{api.Key{Kind: api.KeyEntry, Ino: 1, Name: "a"}, "\x64\x00\x00\x00\x01\x61"},
		{api.Key{Kind: api.KeyInode, Ino: 0x01020304}, "i\x01\x02\x03\x04"},
		{api.Key{Kind: api.KeyChunk, Ino: 2, Chunk: 258}, "c\x00\x00\x00\x02\x00\x00\x01\x02"},
		{api.Key{Kind: api.KeyChunk, Ino: 2}, "c\x00\x00\x00\x02\x00\x00\x00\x00"},
		{api.Key{Kind: api.KeyAttr, Ino: 0xfffefdfc, Name: "who"}, "x\xff\xfe\xfd\xfcwho"},
	} {
		if s, why := inode.Key(x.k); s != x.want || why != api.OK {
			t.Errorf("Key(%v): %q, error %d", x.k, s, why)
		}
	}
	for _, k := range rightKeys() {
		s, why := inode.Key(k)
		if s != keyBytes(k) || why != api.OK {
			t.Errorf("Key(%v): %q, error %d", k, s, why)
		}
		if len(s) > api.MaxKey {
			t.Errorf("Key(%v) has %d bytes", k, len(s))
		}
	}
	for _, k := range wrongKeys() {
		if s, why := inode.Key(k); s != "" || why != api.ErrForm {
			t.Errorf("Key(%.60v): %.40q, error %d", k, s, why)
		}
	}
}

// 12.2: of all names those that path.Name tells are a key's.
func TestKeyOfAllNames(t *testing.T) {
	for b := range 256 {
		for _, name := range []string{string([]byte{byte(b)}), "a" + string([]byte{byte(b)}), string([]byte{byte(b), 'a'}), string([]byte{'.', byte(b)})} {
			for _, kind := range []api.KeyKind{api.KeyEntry, api.KeyAttr} {
				k := api.Key{Kind: kind, Ino: 7, Name: name}
				_, why := inode.Key(k)
				got, parsed := inode.Parse(keyBytes(k))
				if right := path.Name(name); right != (why == api.OK) || right != (parsed == api.OK) || right != (got == k) {
					t.Errorf("Key(%v): error %d; Parse: %v, error %d", k, why, got, parsed)
				}
			}
		}
	}
}

// 12.2 and 12.4: Parse of Key is the key, Key of Parse the bytes.
func TestKeysThereAndBack(t *testing.T) {
	for _, k := range rightKeys() {
		s := keyBytes(k)
		got, why := inode.Parse(s)
		if got != k || why != api.OK {
			t.Errorf("Parse(%q): %v, error %d", s, got, why)
		}
		if again, why := inode.Key(got); again != s || why != api.OK {
			t.Errorf("Key of Parse: %q, error %d", again, why)
		}
	}
}

// 12.2: bytes that are no right key's are an error, and nothing is told beside it.
func TestParseOfWrongKeys(t *testing.T) {
	for _, s := range []string{
		"", "i", "d", "c", "x", "\x00", "i\x00\x00\x01", "i\x00\x00\x00\x01i", "i\x00\x00\x00\x01\x00", "i\x00\x00\x00\x00",
		"d\x00\x00\x01", "d\x00\x00\x00\x01", "d\x00\x00\x00\x00a", "d\x00\x00\x00\x01/", "d\x00\x00\x00\x01a\x00", "d\x00\x00\x00\x01.", "d\x00\x00\x00\x01..",
		"d\x00\x00\x00\x01" + longName + "n", "x\x00\x00\x00\x01" + longName + "n",
		"x\x00\x00\x01", "x\x00\x00\x00\x01", "x\x00\x00\x00\x00a", "x\x00\x00\x00\x01a/b",
		"c\x00\x00\x00\x01", "c\x00\x00\x00\x01\x00", "c\x00\x00\x00\x01\x00\x00\x00", "c\x00\x00\x00\x01\x00\x00\x00\x00\x00", "c\x00\x00\x00\x01\x00\x00\x00\x01a",
		"c\x00\x00\x00\x00\x00\x00\x00\x00", "c\x00\x00\x00\x01\x00\x00\x02\x00", "c\x00\x00\x00\x01\x01\x00\x00\x00", "c\x00\x00\x00\x01\xff\xff\xff\xff",
		"I\x00\x00\x00\x01", "D\x00\x00\x00\x01a", "e\x00\x00\x00\x01a", "\x00\x00\x00\x00\x01a", "\x02\x00\x00\x00\x01a", "\x00\x00\x00\x01a", "\x00\x00\x00\x00\x01",
		"ii\x00\x00\x00\x01", " d\x00\x00\x00\x01a", "d" + strings.Repeat("a", 1<<20), strings.Repeat("c", 1<<20),
	} {
		wantNoKey(t, "wrong bytes", s)
	}
}

// parsed is the key whose bytes s is, as the words say it, byte by byte; false, if there is none.
func parsed(s string) (api.Key, bool) {
	if len(s) < 5 {
		return api.Key{}, false
	}
	k := api.Key{Ino: numberOf(s[1:5])}
	rest := s[5:]
	right := false
	switch s[0] {
	case 'i':
		k.Kind, right = api.KeyInode, rest == ""
	case 'd':
		k.Kind, k.Name, right = api.KeyEntry, rest, path.Name(rest)
	case 'x':
		k.Kind, k.Name, right = api.KeyAttr, rest, path.Name(rest)
	case 'c':
		if len(rest) == 4 {
			k.Kind, k.Chunk, right = api.KeyChunk, numberOf(rest), numberOf(rest) < chunks
		}
	}
	if !right || k.Ino == 0 {
		return api.Key{}, false
	}
	return k, true
}

func numberOf(s string) uint32 {
	var n uint32
	for i := range len(s) {
		n = n<<8 + uint32(s[i])
	}
	return n
}

func wantParsed(t *testing.T, s string) {
	t.Helper()
	want, right := parsed(s)
	got, why := inode.Parse(s)
	if got != want || right != (why == api.OK) || !right && why != api.ErrForm {
		t.Fatalf("Parse(%.40q): %v, error %d", s, got, why)
	}
}

// 12.2: bytes are read as the words say: those of any key, with one byte other, with some left out, and with some behind.
func TestParseAsTheWordsSay(t *testing.T) {
	for _, k := range wrongKeys() {
		wantParsed(t, keyBytes(k))
	}
	for _, k := range rightKeys() {
		s := keyBytes(k)
		for i := range s {
			for b := range 256 {
				wantParsed(t, s[:i]+string([]byte{byte(b)})+s[i+1:])
			}
			wantParsed(t, s[:i])
			wantParsed(t, s[i:])
			wantParsed(t, s[:i]+s[i+1:])
		}
		for _, more := range []string{"\x00", "a", "\x00\x00\x00\x00", "/", s} {
			wantParsed(t, s+more)
			wantParsed(t, more+s)
		}
	}
}

// 12.2: the letter, and Ino, of a kind; nothing, if kind is none. Whether there may be such an inode is no matter.
func TestPrefix(t *testing.T) {
	for kind := range 256 {
		for _, ino := range append(inos(), 0) {
			want := ""
			if letter := letterOf[api.KeyKind(kind)]; letter != "" {
				want = letter + numberBytes(uint64(ino), 4)
			}
			if s := inode.Prefix(api.KeyKind(kind), ino); s != want {
				t.Errorf("Prefix(%d, %d): %q", kind, ino, s)
			}
		}
	}
	if s := inode.Prefix(api.KeyEntry, 1); s != "d\x00\x00\x00\x01" {
		t.Errorf("Prefix: %q", s)
	}
}

// 12.2: the keys of a kind of an inode, and no others, begin with its Prefix.
func TestKeysBeginWithPrefix(t *testing.T) {
	for _, k := range rightKeys() {
		s, _ := inode.Key(k)
		for kind := api.KeyInode; kind < api.KeyCount; kind++ {
			for _, ino := range inos() {
				if want := k.Kind == kind && k.Ino == ino; strings.HasPrefix(s, inode.Prefix(kind, ino)) != want {
					t.Fatalf("Key(%v) begins with Prefix(%d, %d): %v", k, kind, ino, !want)
				}
			}
		}
	}
}

// 12.3: what was answered stays what it was, and is answered again, whatever is asked between.
func TestNothingIsKept(t *testing.T) {
	dir := api.Inode{Kind: api.FileDir, Links: 1}
	entry := api.Key{Kind: api.KeyEntry, Ino: 1, Name: "a"}
	bytes, _ := inode.Encode(dir)
	key, _ := inode.Key(entry)
	for _, n := range append(wrongInodes(), rightInodes()...) {
		inode.Encode(n)
		inode.Decode(inodeBytes(n))
	}
	for _, k := range append(wrongKeys(), rightKeys()...) {
		inode.Key(k)
		inode.Parse(keyBytes(k))
		inode.Prefix(k.Kind, k.Ino)
	}
	if bytes != inodeBytes(dir) || key != keyBytes(entry) {
		t.Errorf("answered once: %q, %q", bytes, key)
	}
	bytesAgain, _ := inode.Encode(dir)
	keyAgain, _ := inode.Key(entry)
	if bytesAgain != bytes || keyAgain != key {
		t.Errorf("answered again: %q, %q", bytesAgain, keyAgain)
	}
}
