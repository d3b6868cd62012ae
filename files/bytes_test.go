package files_test

import (
	"math"
	"testing"

	"cambium/api"
)

// 15.1: the bytes of what Path leads to, from Off on, N of them, but none from its Size on.
func TestRead(t *testing.T) {
	whole := letters(128) + zeros(128) + letters(44)
	for _, p := range []string{"/f", "/a/h", "/a/c/h", "/l/h", "/l/up/f"} {
		wantTold(t, sample(), api.Op{Kind: api.OpRead, Path: p, N: math.MaxUint32, To: "x", Mode: 1, Data: "x"}, api.Told{Text: whole})
		wantTold(t, sample(), api.Op{Kind: api.OpRead, Path: p, N: 300}, api.Told{Text: whole})
		wantTold(t, sample(), api.Op{Kind: api.OpRead, Path: p, Off: 127, N: 130}, api.Told{Text: whole[127:257]})
		wantTold(t, sample(), api.Op{Kind: api.OpRead, Path: p, Off: 299, N: 2}, api.Told{Text: "k"})
		wantTold(t, sample(), api.Op{Kind: api.OpRead, Path: p, Off: 300, N: 2}, api.Told{})
		wantTold(t, sample(), api.Op{Kind: api.OpRead, Path: p, Off: math.MaxUint32, N: math.MaxUint32}, api.Told{})
		wantTold(t, sample(), api.Op{Kind: api.OpRead, Path: p, Off: 1}, api.Told{})
	}
	full := with(sample(), node(inOne, file(1, api.MaxFile)), chunk(inOne, 511, "a"))
	wantTold(t, full, api.Op{Kind: api.OpRead, Path: "/one", Off: 511 * 128, N: 128}, api.Told{Text: "a" + zeros(127)})
}

// 15.1: data.Write's changes, and Size is at least where the bytes end, if there are some.
func TestWrite(t *testing.T) {
	op := func(off uint32, bytes string) api.Op {
		return api.Op{Kind: api.OpWrite, Path: "/one", Off: off, Data: bytes, To: "x", Mode: 1, N: 5}
	}
	size := func(n uint32) api.Change { return is(node(inOne, file(1, n))) }
	wantChanges(t, sample(), op(0, ""))
	wantChanges(t, sample(), op(1000, ""))
	wantChanges(t, sample(), op(api.MaxFile, ""))
	wantChanges(t, sample(), op(0, "a"))
	wantChanges(t, sample(), op(0, "a\x00"))
	wantChanges(t, sample(), op(0, "b"), is(chunk(inOne, 0, "b")))
	wantChanges(t, sample(), op(0, zeros(1)), gone(chunk(inOne, 0, "")))
	wantChanges(t, sample(), op(128, "c"), is(chunk(inOne, 1, "c")))
	wantChanges(t, sample(), op(127, "abc"), is(chunk(inOne, 0, "a"+zeros(126)+"a")), is(chunk(inOne, 1, "bc")), size(130))
	wantChanges(t, sample(), op(129, zeros(1)), size(130))
	wantChanges(t, sample(), op(128, zeros(2)), gone(chunk(inOne, 1, "")), size(130))
	wantChanges(t, sample(), op(300, "a"), is(chunk(inOne, 2, zeros(44)+"a")), size(301))
	wantChanges(t, sample(), op(api.MaxFile-1, "a"), is(chunk(inOne, 511, zeros(127)+"a")), size(api.MaxFile))
	wantChanges(t, sample(), op(api.MaxFile-2, zeros(2)), size(api.MaxFile))
	for _, x := range []api.Op{op(api.MaxFile, "a"), op(api.MaxFile-1, "ab"), op(api.MaxFile+1, ""), op(math.MaxUint32, ""), op(math.MaxUint32, "a"),
		op(math.MaxUint32, letters(10)), op(0, letters(api.MaxFile+1))} {
		wantError(t, sample(), x, api.ErrRange)
	}
	linked := api.Op{Kind: api.OpWrite, Path: "/l/h", Off: 300, Data: "a"}
	wantChanges(t, sample(), linked, is(chunk(inFile, 2, letters(44)+"a")), is(node(inFile, file(3, 301))))
	moded := api.Inode{Kind: api.FileData, Mode: 0x1234, Links: 1}
	l := []api.Item{entry(api.Root, "f", 2), node(api.Root, directory()), node(2, moded)}
	moded.Size = api.MaxFile
	var all []api.Change
	for num := range uint32(512) {
		all = append(all, is(chunk(2, num, letters(128))))
	}
	wantChanges(t, l, api.Op{Kind: api.OpWrite, Path: "/f", Data: letters(api.MaxFile)}, append(all, is(node(2, moded)))...)
}

// 15.1: data.Cut's changes, and Size is N.
func TestCut(t *testing.T) {
	op := func(n uint32) api.Op {
		return api.Op{Kind: api.OpCut, Path: "/one", N: n, To: "x", Mode: 1, Off: 5, Data: "x"}
	}
	size := func(n uint32) api.Change { return is(node(inOne, file(1, n))) }
	wantChanges(t, sample(), op(0), gone(chunk(inOne, 0, "")), gone(chunk(inOne, 1, "")), size(0))
	wantChanges(t, sample(), op(1), gone(chunk(inOne, 1, "")), size(1))
	wantChanges(t, sample(), op(128), gone(chunk(inOne, 1, "")), size(128))
	wantChanges(t, sample(), op(129))
	wantChanges(t, sample(), op(130), size(130))
	wantChanges(t, sample(), op(api.MaxFile), size(api.MaxFile))
	wantError(t, sample(), op(api.MaxFile+1), api.ErrRange)
	wantError(t, sample(), op(math.MaxUint32), api.ErrRange)
	wantChanges(t, sample(), api.Op{Kind: api.OpCut, Path: "/l/h", N: 100},
		is(chunk(inFile, 0, letters(100))), gone(chunk(inFile, 2, "")), is(node(inFile, file(3, 100))))
	wantChanges(t, sample(), api.Op{Kind: api.OpCut, Path: "/a/h", N: 257}, is(chunk(inFile, 2, "k")), is(node(inFile, file(3, 257))))
}

// 15.4: what was written is read, by each of its names.
func TestReadBack(t *testing.T) {
	l := sample()
	want := []byte(letters(128) + zeros(128) + letters(44))
	x := choices(3)
	for range 300 {
		off, bytes := x.below(700), x.bytes(x.below(400))
		if n := off + len(bytes); n > len(want) && len(bytes) > 0 {
			want = append(want, make([]byte, n-len(want))...)
		}
		if len(bytes) > 0 {
			copy(want[off:], bytes)
		}
		l = done(t, l, api.Op{Kind: api.OpWrite, Path: []string{"/f", "/a/h", "/l/h"}[x.below(3)], Off: uint32(off), Data: bytes})
		if x.below(5) == 0 {
			n := x.below(1000)
			want = append(want, zeros(max(n-len(want), 0))...)[:n]
			l = done(t, l, api.Op{Kind: api.OpCut, Path: "/a/c/h", N: uint32(n)})
		}
		from, n := x.below(700), x.below(700)
		begin := min(from, len(want))
		text := string(want[begin:min(from+n, len(want))][:max(min(from+n, len(want))-begin, 0)])
		wantTold(t, l, api.Op{Kind: api.OpRead, Path: "/f", Off: uint32(from), N: uint32(n)}, api.Told{Text: text})
		wantTold(t, l, api.Op{Kind: api.OpStat, Path: "/f"}, api.Told{Ino: inFile, Inode: file(3, uint32(len(want)))})
		wantTold(t, l, api.Op{Kind: api.OpRead, Path: "/one", N: 200}, api.Told{Text: "a" + zeros(127) + "b"})
	}
}
