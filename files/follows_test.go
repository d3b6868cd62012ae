package files_test

import (
	"math"
	"slices"
	"strings"
	"testing"

	"cambium/api"
	"cambium/dirs"
	"cambium/files"
	"cambium/item"
)

// path is one of few names, often of what is there, and sometimes not right.
func (x *choices) path() string {
	p := ""
	for range x.below(4) {
		p += "/" + []string{"a", "b", "c"}[x.below(3)]
	}
	switch x.below(24) {
	case 0:
		return p + "/"
	case 1:
		return p + "/.."
	case 2:
		return p + "/" + letters(24+x.below(2))
	case 3:
		return p + strings.Repeat("/a", 125+x.below(5))
	case 4:
		return "a" + p
	}
	return p + "/" + []string{"a", "b", "c"}[x.below(3)]
}

// number is one at which a chunk's edges are often near.
func (x *choices) number() uint32 {
	return []uint32{0, 1, 2, 127, 128, 129, uint32(x.below(600)), uint32(x.below(600)), api.MaxFile - 1, api.MaxFile, api.MaxFile + 1, math.MaxUint32}[x.below(12)]
}

func (x *choices) op() api.Op {
	op := api.Op{Kind: api.OpKind(x.below(int(api.OpCount) + 1)), Path: x.path(), To: x.path(), Mode: uint16(x.below(3)), Off: x.number(), N: x.number()}
	// More is made than is taken away, so that there is something.
	if x.below(3) == 0 {
		op.Kind = []api.OpKind{api.OpMake, api.OpMkdir, api.OpMkdir, api.OpLink, api.OpHard, api.OpRename, api.OpWrite}[x.below(7)]
	}
	switch op.Kind {
	case api.OpSetAttr, api.OpGetAttr, api.OpDropAttr:
		op.To = []string{"k", "kk", "l", "", "a/b", letters(24), letters(25)}[x.below(7)]
		op.Data = x.bytes([]int{0, 1, 63, 64, 65}[x.below(5)])
	case api.OpLink:
		if x.below(8) == 0 {
			op.To = []string{"", "no path", "\x00", letters(64), letters(65)}[x.below(5)]
		}
	default:
		op.Data = x.bytes(x.below(300))
	}
	return op
}

// plainDiff has the changes that make of one list another one.
func plainDiff(a, b []api.Item) []api.Change {
	was := map[string]string{}
	for _, x := range a {
		was[x.Key] = x.Val
	}
	var out []api.Change
	for _, x := range b {
		if val, there := was[x.Key]; !there || val != x.Val {
			out = append(out, api.Change{Key: x.Key, Has: true, Val: x.Val})
		}
		delete(was, x.Key)
	}
	for key := range was {
		out = append(out, api.Change{Key: key})
	}
	slices.SortFunc(out, func(a, b api.Change) int { return strings.Compare(a.Key, b.Key) })
	return out
}

// 15.1, 15.3: whatever is done, one behind the other, is what the words say of plain things; and the volume stays right.
func TestAsTheWordsSay(t *testing.T) {
	x := choices(1)
	answers := map[api.OpKind]map[api.Errno]int{}
	for range 40 {
		m := newModel()
		l := m.items()
		for range 250 {
			op := x.op()
			then := m.copied()
			wantTold, wantWhy := then.do(op)
			if wantWhy != api.OK {
				then = m
			}
			got, told, why := files.Do(l, op)
			if want := plainDiff(l, then.items()); !slices.Equal(got, want) || !same(told, wantTold) || why != wantWhy {
				t.Fatalf("Do of %#v in %q: %#v, %#v, error %d, not %#v, %#v, %d", op, l, got, told, why, want, wantTold, wantWhy)
			}
			m = then
			l, _ = item.Apply(l, got)
			if dirs.Check(l) != api.OK {
				t.Fatalf("Do of %#v: %q is not right", op, l)
			}
			if answers[op.Kind] == nil {
				answers[op.Kind] = map[api.Errno]int{}
			}
			answers[op.Kind][why]++
		}
	}
	for kind, least := range map[api.OpKind]int{api.OpMake: 4, api.OpMkdir: 4, api.OpLink: 5, api.OpHard: 5, api.OpRead: 4, api.OpWrite: 5, api.OpCut: 5,
		api.OpRename: 7, api.OpUnlink: 4, api.OpRmdir: 5, api.OpStat: 4, api.OpList: 4, api.OpMode: 4, api.OpSetAttr: 5, api.OpGetAttr: 4, api.OpDropAttr: 4} {
		if len(answers[kind]) < least || answers[kind][api.OK] == 0 {
			t.Errorf("kind %d was answered by too few ways: %v", kind, answers[kind])
		}
	}
}

// 15.5: what was made is found by its path, and not, once it is no more.
func TestFound(t *testing.T) {
	for _, kind := range []api.OpKind{api.OpMake, api.OpMkdir, api.OpLink} {
		for _, p := range []string{"/new", "/b/new", "/a/c/new", "/l/new"} {
			stat := api.Op{Kind: api.OpStat, Path: p, N: 1}
			l := sample()
			wantError(t, l, stat, api.ErrNone)
			l = done(t, l, api.Op{Kind: kind, Path: p, To: "/f"})
			if told := told(t, l, stat); told.Ino != inFree || told.Inode.Links != 1 {
				t.Errorf("%s: %#v", p, told)
			}
			moved := done(t, l, api.Op{Kind: api.OpRename, Path: p, To: "/other"})
			wantError(t, moved, stat, api.ErrNone)
			if told := told(t, moved, api.Op{Kind: api.OpStat, Path: "/other", N: 1}); told.Ino != inFree {
				t.Errorf("%s: %#v", p, told)
			}
			remove := api.Op{Kind: api.OpUnlink, Path: p}
			if kind == api.OpMkdir {
				remove.Kind = api.OpRmdir
			}
			l = done(t, l, remove)
			wantError(t, l, stat, api.ErrNone)
			if !slices.Equal(l, sample()) {
				t.Errorf("%s: what was made and is no more is not all gone", p)
			}
		}
	}
	l := done(t, sample(), api.Op{Kind: api.OpHard, Path: "/one", To: "/b/new"})
	if got := told(t, l, api.Op{Kind: api.OpRead, Path: "/b/new", N: 1}); got.Text != "a" {
		t.Errorf("another name of a file: %#v", got)
	}
	l = done(t, l, api.Op{Kind: api.OpUnlink, Path: "/one"})
	wantError(t, l, api.Op{Kind: api.OpStat, Path: "/one"}, api.ErrNone)
	if got := told(t, l, api.Op{Kind: api.OpRead, Path: "/b/new", N: 1}); got.Text != "a" {
		t.Errorf("the name that is left: %#v", got)
	}
}

// elsewhere has the items that are not entries of those directories.
func elsewhere(l []api.Item, outside ...uint32) []api.Item {
	return slices.DeleteFunc(slices.Clone(l), func(x api.Item) bool {
		return x.Key[0] == 'd' && slices.ContainsFunc(outside, func(dir uint32) bool { return strings.HasPrefix(x.Key, entry(dir, "", 0).Key) })
	})
}

// 15.6: a rename changes nothing below what is renamed, and nothing elsewhere but the two names.
func TestElsewhere(t *testing.T) {
	for _, x := range []struct {
		p, to    string
		dir, top uint32
	}{{"/a", "/new", api.Root, api.Root}, {"/a", "/b/new", api.Root, inB}, {"/a/c", "/b/c", inA, inB}, {"/f", "/b/f", api.Root, inB}, {"/l/up", "/up", inC, api.Root}} {
		after := done(t, sample(), api.Op{Kind: api.OpRename, Path: x.p, To: x.to})
		if !slices.Equal(elsewhere(after, x.dir, x.top), elsewhere(sample(), x.dir, x.top)) {
			t.Errorf("rename of %s to %s: something else is otherwise", x.p, x.to)
		}
		back := done(t, after, api.Op{Kind: api.OpRename, Path: x.to, To: x.p})
		if !slices.Equal(back, sample()) {
			t.Errorf("rename of %s to %s, and back: it is not as it was", x.p, x.to)
		}
	}
	l := done(t, sample(), api.Op{Kind: api.OpRename, Path: "/a", To: "/b/new"})
	for _, below := range []string{"/h", "/c", "/c/h", "/c/up", "/l"} {
		for _, n := range []uint32{0, 1} {
			was := told(t, sample(), api.Op{Kind: api.OpStat, Path: "/a" + below, N: 1})
			if now := told(t, l, api.Op{Kind: api.OpStat, Path: "/b/new" + below, N: 1}); !same(now, was) {
				t.Errorf("%s, %d: %#v, not %#v", below, n, now, was)
			}
			wantError(t, l, api.Op{Kind: api.OpStat, Path: "/a" + below, N: n}, api.ErrNone)
		}
	}
}

// 15.2: what is answered is written to, and appended to, and nothing else is otherwise.
func TestNewMemory(t *testing.T) {
	room := append(sample(), api.Item{Key: "zz", Val: "zz"})
	want := slices.Clone(room)
	l := room[:len(room)-1]
	for _, op := range []api.Op{
		{Kind: api.OpUnlink, Path: "/one"}, {Kind: api.OpWrite, Path: "/f", Data: letters(1000)}, {Kind: api.OpRename, Path: "/one", To: "/f"},
		{Kind: api.OpMake, Path: "/new"}, {Kind: api.OpRmdir, Path: "/b"}, {Kind: api.OpCut, Path: "/f"}, {Kind: api.OpList, Path: "/"},
		{Kind: api.OpSetAttr, Path: "/", To: "k", Data: "v"}, {Kind: api.OpDropAttr, Path: "/", To: "k"},
	} {
		first, firstTold, _ := files.Do(l, op)
		second, secondTold, _ := files.Do(l, op)
		kept, keptTold := slices.Clone(second), slices.Clone(secondTold.Entries)
		for i := range first {
			first[i] = api.Change{Key: "other"}
		}
		for i := range firstTold.Entries {
			firstTold.Entries[i] = api.Entry{Name: "other"}
		}
		_ = append(first, api.Change{Key: "other"})
		_ = append(firstTold.Entries, api.Entry{Name: "other"})
		third, thirdTold, _ := files.Do(l, op)
		if !slices.Equal(second, kept) || !slices.Equal(third, kept) || !slices.Equal(secondTold.Entries, keptTold) || !slices.Equal(thirdTold.Entries, keptTold) {
			t.Errorf("answers of %#v share memory", op)
		}
		if !slices.Equal(room, want) {
			t.Errorf("%#v: what was handed in is otherwise: %q", op, room)
		}
	}
	got, _, _ := files.Do(l, api.Op{Kind: api.OpWrite, Path: "/one", Data: "Z"})
	for i := range room {
		room[i].Val = "other"
	}
	if len(got) != 1 || got[0].Val != "Z" {
		t.Errorf("what was answered is otherwise: %#v", got)
	}
}
