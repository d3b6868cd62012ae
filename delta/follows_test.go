package delta_test

import (
	"slices"
	"strconv"
	"testing"

	"cambium/api"
	"cambium/data"
	"cambium/delta"
	"cambium/dirs"
	"cambium/files"
	"cambium/inode"
	"cambium/item"
	"cambium/path"
)

var (
	someNames = []string{"a", "b", "c", "a!", "a0", "\x01", "\xff"}
	someTexts = []string{"", "x", "x\x00", "\x00", letters(130), zeros(129) + "y", letters(64)}
)

// path is any of some, mostly short.
func (x *choices) path() string {
	p := ""
	for range 1 + x.below(3) {
		p += "/" + one(x, someNames)
	}
	return p
}

// op is anything that may be done in a volume.
func (x *choices) op() api.Op {
	kinds := []api.OpKind{api.OpMake, api.OpMkdir, api.OpMkdir, api.OpMkdir, api.OpLink, api.OpHard, api.OpHard, api.OpWrite, api.OpWrite, api.OpCut,
		api.OpRename, api.OpUnlink, api.OpRmdir, api.OpMode, api.OpSetAttr, api.OpDropAttr}
	op := api.Op{Kind: one(x, kinds), Path: x.path(), To: x.path(), Mode: uint16(x.below(3)), Off: uint32(x.below(300)), N: uint32(x.below(300)), Data: one(x, someTexts)}
	switch op.Kind {
	case api.OpSetAttr, api.OpDropAttr:
		op.To = one(x, someNames)
	case api.OpMode:
		if x.below(4) == 0 {
			op.Path = "/"
		}
	}
	return op
}

// done is a volume in which some things were done.
func (x *choices) done(t *testing.T, l []api.Item, n int) []api.Item {
	t.Helper()
	for range n {
		changes, _, why := files.Do(l, x.op())
		if why != api.OK {
			continue
		}
		if l, why = item.Apply(l, changes); why != api.OK {
			t.Fatalf("Apply: error %d", why)
		}
	}
	return l
}

// seenBelow tells what is seen of an inode and of all below it, as the words say it, one by one.
func seenBelow(t *testing.T, l []api.Item, names []string, ino uint32) []api.Seen {
	t.Helper()
	n, why := dirs.Get(l, ino)
	p, tooLong := path.Join(names...)
	if why != api.OK || tooLong != api.OK {
		t.Fatalf("Get of %d at %q: errors %d, %d", ino, names, why, tooLong)
	}
	s := api.Seen{Path: p, Kind: n.Kind, Mode: n.Mode, Text: n.Target}
	if n.Kind == api.FileData {
		s.Text, _ = data.Read(l, ino, n.Size, 0, n.Size)
	}
	attrs, _ := item.Under(l, inode.Prefix(api.KeyAttr, ino))
	for _, a := range attrs {
		s.Attrs = append(s.Attrs, api.Item{Key: a.Key[5:], Val: a.Val})
	}
	out := []api.Seen{s}
	if n.Kind != api.FileDir {
		return out
	}
	entries, _ := dirs.List(l, ino)
	for _, e := range entries {
		out = append(out, seenBelow(t, l, append(slices.Clone(names), e.Name), e.Ino)...)
	}
	return out
}

// seenOf is what is seen of a volume, by path.
func seenOf(t *testing.T, l []api.Item) map[string]api.Seen {
	t.Helper()
	out := map[string]api.Seen{}
	for _, s := range seenBelow(t, l, nil, api.Root) {
		out[s.Path] = s
	}
	return out
}

// pathsOf has the paths of two volumes at which not the same is seen.
func pathsOf(a, b map[string]api.Seen) []api.Delta {
	kinds := map[string]api.DeltaKind{}
	for p, s := range a {
		if now, there := b[p]; !there {
			kinds[p] = api.DeltaGone
		} else if !same(s, now) {
			kinds[p] = api.DeltaOther
		}
	}
	for p := range b {
		if _, there := a[p]; !there {
			kinds[p] = api.DeltaNew
		}
	}
	var out []api.Delta
	for p, kind := range kinds {
		out = append(out, api.Delta{Path: p, Kind: kind})
	}
	slices.SortFunc(out, func(x, y api.Delta) int { return slices.Compare([]byte(x.Path), []byte(y.Path)) })
	return out
}

// 17.2, 17.4: volumes in which many things were done, each against the ones ahead of it.
func TestAsTheWordsSay(t *testing.T) {
	x := choices(5)
	count := map[api.DeltaKind]int{}
	volumes := [][]api.Item{dirs.New()}
	for round := range 60 {
		l := x.done(t, one(&x, volumes), 1+x.below(30))
		volumes = append(volumes, l)
		want := seenOf(t, l)
		got, why := delta.Seen(l)
		if why != api.OK || len(got) != len(want) || !slices.IsSortedFunc(got, func(a, b api.Seen) int { return slices.Compare([]byte(a.Path), []byte(b.Path)) }) {
			t.Fatalf("round %d: Seen: %d, error %d, not %d", round, len(got), why, len(want))
		}
		for _, s := range got {
			if !same(s, want[s.Path]) {
				t.Fatalf("round %d: Seen: %v, not %v", round, s, want[s.Path])
			}
		}
		for range 4 {
			other := one(&x, volumes)
			apart := pathsOf(seenOf(t, other), want)
			wantPaths(t, "round "+strconv.Itoa(round), other, l, apart...)
			for _, d := range apart {
				count[d.Kind]++
			}
		}
		wantPaths(t, "itself", l, l)
	}
	for _, kind := range []api.DeltaKind{api.DeltaNew, api.DeltaGone, api.DeltaOther} {
		if count[kind] < 100 {
			t.Errorf("only %d of kind %d", count[kind], kind)
		}
	}
}
