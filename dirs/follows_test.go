package dirs_test

import (
	"slices"
	"strconv"
	"testing"

	"cambium/api"
	"cambium/dirs"
	"cambium/inode"
	"cambium/path"
)

// choices are numbers in a mixed order.
type choices uint32

func (x *choices) below(n int) int {
	*x = *x*1664525 + 1013904223
	return int(*x>>8) % n
}

func one[T any](x *choices, l []T) T {
	return l[x.below(len(l))]
}

// plain is a volume on its way: its directories, the others with how many names they have, and the items that stay.
type plain struct {
	choices
	dirs   []uint32
	others map[uint32]*api.Inode
	items  []api.Item
	used   map[string]bool
}

// right is any right volume.
func right(x *choices) []api.Item {
	p := plain{choices: *x, dirs: []uint32{api.Root}, others: map[uint32]*api.Inode{}, used: map[string]bool{}}
	numbers := []uint32{2, 3, 4, 5, 6, 7, 8, 9, 300, 1 << 24, 1<<32 - 1}
	for _, ino := range numbers {
		if p.below(4) != 0 {
			p.make(ino)
		}
	}
	for range p.below(6) {
		p.hard()
	}
	for ino, n := range p.others {
		p.items = append(p.items, node(ino, *n))
	}
	for _, ino := range p.dirs {
		p.items = append(p.items, node(ino, directory()))
	}
	*x = p.choices
	return volume(p.items...)
}

// name gives an inode one more name.
func (p *plain) name(ino uint32) {
	x := entry(one(&p.choices, p.dirs), one(&p.choices, someNames), ino)
	for p.used[x.Key] {
		x = entry(one(&p.choices, p.dirs), strconv.Itoa(p.below(100)), ino)
	}
	p.used[x.Key] = true
	p.items = append(p.items, x)
}

func (p *plain) make(ino uint32) {
	p.name(ino)
	if p.below(3) == 0 {
		p.items = append(p.items, attr(ino, one(&p.choices, someNames), letters(p.below(api.MaxAttr+1))))
	}
	switch p.below(3) {
	case 0:
		p.dirs = append(p.dirs, ino)
	case 1:
		n := file(1, uint32(p.below(500)))
		if n.Size >= 128 {
			p.items = append(p.items, chunk(ino, 0, letters(1+p.below(128))))
		}
		if n.Size > 256 && n.Size < 384 {
			p.items = append(p.items, chunk(ino, 2, letters(1+p.below(int(n.Size)-256))))
		}
		p.others[ino] = &n
	default:
		n := link(one(&p.choices, someTargets))
		p.others[ino] = &n
	}
}

// hard names something that is no directory once more.
func (p *plain) hard() {
	var l []uint32
	for ino := range p.others {
		l = append(l, ino)
	}
	if len(l) == 0 {
		return
	}
	slices.Sort(l)
	ino := one(&p.choices, l)
	p.others[ino].Links++
	p.name(ino)
}

var (
	someNames   = []string{"a", "b", "c", "d", "e", "f", "aa", "ab", "\xff", letters(api.MaxName)}
	wrongNames  = []string{"", ".", "..", "a/b", "\x00", letters(api.MaxName + 1), "none"}
	someTargets = []string{"/", "/a", "/b", "/a/b", "/b/c", "/c", "/d", "/aa/a", "/f/f/f", "a", "//", "/.."}
)

// kept is what a list has by a key.
func kept(l []api.Item, key string) (string, bool) {
	for _, x := range l {
		if x.Key == key {
			return x.Val, true
		}
	}
	return "", false
}

// inodeOf is an inode of a list, or one of no kind.
func inodeOf(l []api.Item, ino uint32) api.Inode {
	val, _ := kept(l, has("i", ino, "", "").Key)
	n, _ := inode.Decode(val)
	return n
}

// named is the number of the inode that an entry's bytes name.
func named(val string) uint32 {
	return uint32(val[0])<<24 | uint32(val[1])<<16 | uint32(val[2])<<8 | uint32(val[3])
}

// isRight tells if a volume is right, as the words say it, one by one.
func isRight(l []api.Item) bool {
	for i, x := range l {
		if i > 0 && l[i-1].Key >= x.Key || len(x.Val) > api.MaxVal {
			return false
		}
		if k, why := inode.Parse(x.Key); why != api.OK || !isRightVal(k.Kind, x.Val) {
			return false
		}
	}
	if inodeOf(l, api.Root).Kind != api.FileDir {
		return false
	}
	for _, x := range l {
		k, _ := inode.Parse(x.Key)
		n := inodeOf(l, k.Ino)
		switch {
		case n.Kind == api.FileNone,
			k.Kind == api.KeyEntry && (n.Kind != api.FileDir || inodeOf(l, named(x.Val)).Kind == api.FileNone),
			k.Kind == api.KeyChunk && (n.Kind != api.FileData || int(n.Size) < 128*int(k.Chunk)+len(x.Val)),
			k.Kind == api.KeyInode && k.Ino != api.Root && len(parents(l, k.Ino)) != int(n.Links),
			k.Kind == api.KeyInode && n.Kind == api.FileDir && !comesToRoot(l, k.Ino):
			return false
		}
	}
	return true
}

func isRightVal(kind api.KeyKind, val string) bool {
	switch kind {
	case api.KeyInode:
		_, why := inode.Decode(val)
		return why == api.OK
	case api.KeyEntry:
		return len(val) == 4 && named(val) >= 2
	case api.KeyChunk:
		return len(val) >= 1 && len(val) <= 128 && val[len(val)-1] != 0
	}
	return len(val) <= api.MaxAttr
}

// parents has the directories that have an entry of an inode, each as often as they have one.
func parents(l []api.Item, ino uint32) []uint32 {
	var out []uint32
	for _, x := range l {
		if k, _ := inode.Parse(x.Key); k.Kind == api.KeyEntry && named(x.Val) == ino {
			out = append(out, k.Ino)
		}
	}
	return out
}

func comesToRoot(l []api.Item, ino uint32) bool {
	for range len(l) + 1 {
		if ino == api.Root {
			return true
		}
		up := parents(l, ino)
		if len(up) == 0 {
			return false
		}
		ino = up[0]
	}
	return false
}

// broken is a volume with something otherwise, mostly so that it is not right.
func broken(x *choices, l []api.Item) []api.Item {
	l = slices.Clone(l)
	at := x.below(len(l))
	other := l[x.below(len(l))]
	switch x.below(8) {
	case 0:
		return slices.Delete(l, at, at+1)
	case 1:
		return slices.Insert(l, at, other)
	case 2:
		l[at], l[len(l)-1-at] = l[len(l)-1-at], l[at]
	case 3:
		l[at].Key = turned(x, l[at].Key)
		return volume(l...)
	case 4:
		l[at].Val = turned(x, l[at].Val)
	case 5:
		l[at].Val = other.Val
	case 6:
		ino := []uint32{0, 1, 2, 3, 4, 5, 300}[x.below(7)]
		return with(l, []api.Item{
			entry(ino, one(x, someNames), uint32(x.below(10))), node(ino, directory()), node(ino, file(1, uint32(x.below(300)))),
			chunk(ino, uint32(x.below(4)), letters(x.below(140))), attr(ino, one(x, someNames), letters(x.below(70))),
			node(ino, link("/a")), entry(ino, one(x, wrongNames), uint32(x.below(10))),
		}[x.below(7)])
	case 7:
		// Two directories change places: often one comes to be below itself.
		return with(l, api.Item{Key: l[at].Key, Val: other.Val}, api.Item{Key: other.Key, Val: l[at].Val})
	}
	return l
}

// turned is a text with a byte changed, taken out, or put behind it.
func turned(x *choices, s string) string {
	b := []byte(s)
	if len(b) == 0 || x.below(4) == 0 {
		return s + string([]byte{byte(x.below(4))})
	}
	at := x.below(len(b))
	switch x.below(3) {
	case 0:
		b[at] = byte(x.below(256))
	case 1:
		b[at] ^= 1 << x.below(3)
	default:
		b = slices.Delete(b, at, at+1)
	}
	return string(b)
}

// 14.1: volumes are right, or not, as the words say.
func TestCheckAsTheWordsSay(t *testing.T) {
	x := choices(1)
	count := map[bool]int{}
	for range 1500 {
		l := right(&x)
		if !isRight(l) || dirs.Check(l) != api.OK {
			t.Fatalf("%q: %v, error %d", l, isRight(l), dirs.Check(l))
		}
		for range 6 {
			l = broken(&x, l)
			want := map[bool]api.Errno{true: api.OK, false: api.ErrBad}[isRight(l)]
			if why := dirs.Check(l); why != want {
				t.Fatalf("%q: error %d", l, why)
			}
			count[want == api.OK]++
			if len(l) == 0 {
				break
			}
		}
	}
	if count[true] < 300 || count[false] < 3000 {
		t.Errorf("too few of one kind: %v", count)
	}
}

// walked goes along names from an inode on, as the words say it.
func walked(l []api.Item, at uint32, names []string, follow bool, links int) (uint32, api.Errno) {
	n := inodeOf(l, at)
	if n.Kind == api.FileLink && (len(names) > 0 || follow) {
		if links == 8 {
			return 0, api.ErrLoop
		}
		target, why := path.Split(n.Target)
		if why != api.OK {
			return 0, why
		}
		return walked(l, api.Root, slices.Concat(target, names), follow, links+1)
	}
	if len(names) == 0 {
		return at, api.OK
	}
	if n.Kind != api.FileDir {
		return 0, api.ErrFile
	}
	val, there := kept(l, has("d", at, names[0], "").Key)
	if !there {
		return 0, api.ErrNone
	}
	return walked(l, named(val), names[1:], follow, links)
}

// listed has the entries of a directory, as the words say it.
func listed(l []api.Item, ino uint32) []api.Entry {
	var out []api.Entry
	for _, x := range l {
		if k, _ := inode.Parse(x.Key); k.Kind == api.KeyEntry && k.Ino == ino {
			out = append(out, api.Entry{Name: k.Name, Ino: named(x.Val), Kind: inodeOf(l, named(x.Val)).Kind})
		}
	}
	return out
}

// 14.1, 14.2: right volumes are walked, listed and asked as the words say.
func TestAsTheWordsSay(t *testing.T) {
	x := choices(2)
	count := map[api.Errno]int{}
	for range 1500 {
		l := right(&x)
		for range 20 {
			var names []string
			for range x.below(5) {
				names = append(names, one(&x, someNames[:8]))
			}
			if len(names) > 0 && x.below(10) == 0 {
				names[x.below(len(names))] = one(&x, wrongNames)
			}
			follow := x.below(2) == 0
			want, wantWhy := walked(l, api.Root, names, follow, 0)
			if ino, why := dirs.Walk(l, names, follow); ino != want || why != wantWhy {
				t.Fatalf("Walk of %q along %q, %v: %d, error %d, not %d, %d", l, names, follow, ino, why, want, wantWhy)
			}
			count[wantWhy]++
		}
		wantAsked(t, l)
	}
	for _, why := range []api.Errno{api.OK, api.ErrNone, api.ErrFile, api.ErrLoop, api.ErrName} {
		if count[why] < 100 {
			t.Errorf("only %d of error %d", count[why], why)
		}
	}
}

// wantAsked holds what Get, List and Next answer against the words.
func wantAsked(t *testing.T, l []api.Item) {
	t.Helper()
	free := uint32(2)
	for inodeOf(l, free).Kind != api.FileNone {
		free++
	}
	if ino, why := dirs.Next(l); ino != free || why != api.OK {
		t.Fatalf("Next of %q: %d, error %d, not %d", l, ino, why, free)
	}
	for _, ino := range []uint32{0, 1, 2, 3, 4, 5, 6, 7, 8, 9, 10, 300, 1 << 24, 1<<32 - 1} {
		n := inodeOf(l, ino)
		got, why := dirs.Get(l, ino)
		if there := n.Kind != api.FileNone; got != n || (why == api.OK) != there || !there && why != api.ErrNone {
			t.Fatalf("Get of %q, %d: %v, error %d", l, ino, got, why)
		}
		want := map[api.FileKind]api.Errno{api.FileNone: api.ErrNone, api.FileData: api.ErrFile, api.FileLink: api.ErrFile}[n.Kind]
		entries, why := dirs.List(l, ino)
		if why != want || want != api.OK && entries != nil || want == api.OK && !slices.Equal(entries, listed(l, ino)) {
			t.Fatalf("List of %q, %d: %v, error %d", l, ino, entries, why)
		}
	}
}

// 14.4: each entry of a directory to which one comes along names is found along them, and its own.
func TestFound(t *testing.T) {
	x := choices(3)
	for range 300 {
		l := right(&x)
		wantFound(t, l, api.Root, nil)
	}
	wantFound(t, sample(), api.Root, nil)
	wantFound(t, sample(), inC, []string{"l"})
	wantFound(t, sample(), inA, []string{"l", "up", "a"})
}

func wantFound(t *testing.T, l []api.Item, dir uint32, names []string) {
	t.Helper()
	wantWalk(t, l, names, true, dir, api.OK)
	entries, why := dirs.List(l, dir)
	if why != api.OK {
		t.Fatalf("List of %d: error %d", dir, why)
	}
	for _, e := range entries {
		along := append(slices.Clone(names), e.Name)
		wantWalk(t, l, along, false, e.Ino, api.OK)
		if n, why := dirs.Get(l, e.Ino); n.Kind != e.Kind || why != api.OK {
			t.Errorf("Get of %d: %v, error %d, not of kind %d", e.Ino, n, why, e.Kind)
		}
		if e.Kind == api.FileDir {
			wantFound(t, l, e.Ino, along)
		}
	}
}

// 14.2: what was made with many names is found by each of them.
func TestManyNames(t *testing.T) {
	const many = api.MaxHard + 1
	items := []api.Item{node(api.Root, directory()), node(2, directory()), entry(api.Root, "d", 2), node(3, file(many, 0))}
	for i := range many {
		items = append(items, entry(uint32(1+i%2), strconv.Itoa(i), 3))
	}
	l := volume(items...)
	wantCheck(t, "many names", l, api.OK)
	for _, i := range []int{0, 1, 2, 511, 512, 1023, 1024} {
		names := []string{"d", strconv.Itoa(i)}
		wantWalk(t, l, names[1-i%2:], false, 3, api.OK)
	}
}
