package super_test

import (
	"math"
	"slices"
	"strings"
	"testing"

	"cambium/api"
	"cambium/node"
	"cambium/pack"
	"cambium/super"
)

var (
	someHash = [32]byte{0: 1, 15: 0xfe, 31: 0xff}
	zeroTail = [32]byte{0: 9, 29: 7} // ends with zero bytes
)

// example is a right superblock of a generation.
func example(gen uint64) api.Super {
	return api.Super{Size: 0x1234, Gen: gen, Table: 0x0456, Hash: someHash}
}

// with is the example with something else in it.
func with(change func(s *api.Super)) api.Super {
	s := example(5)
	change(&s)
	return s
}

func rightSupers() []api.Super {
	return []api.Super{
		example(5),
		{Size: api.MinBlocks, Gen: 1, Table: 2},
		{Size: api.MinBlocks, Gen: 2, Table: api.MinBlocks - 1, Hash: zeroTail},
		{Size: api.MaxBlocks, Gen: api.MaxGen, Table: api.MaxBlocks - 1, Hash: someHash},
		{Size: api.MaxBlocks, Gen: api.MaxGen - 1, Table: 2, Hash: someHash},
		{Size: 300, Gen: 0x0102030405060708, Table: 299, Hash: [32]byte{31: 1}},
	}
}

func wrongSupers() []api.Super {
	return []api.Super{
		{},
		with(func(s *api.Super) { s.Size = 0 }),
		with(func(s *api.Super) { s.Size, s.Table = api.MinBlocks-1, 2 }),
		with(func(s *api.Super) { s.Size = api.MaxBlocks + 1 }),
		with(func(s *api.Super) { s.Size = math.MaxUint32 }),
		with(func(s *api.Super) { s.Gen = 0 }),
		with(func(s *api.Super) { s.Gen = api.MaxGen + 1 }),
		with(func(s *api.Super) { s.Gen = math.MaxUint64 }),
		with(func(s *api.Super) { s.Table = 0 }),
		with(func(s *api.Super) { s.Table = 1 }),
		with(func(s *api.Super) { s.Table = s.Size }),
		with(func(s *api.Super) { s.Table = math.MaxUint32 }),
		with(func(s *api.Super) { s.Size, s.Table = api.MaxBlocks, api.MaxBlocks }),
	}
}

// bytesOf writes any superblock's bytes, be it right or not.
func bytesOf(s api.Super) string {
	b := []byte{0x43, 0x42}
	number := func(n uint64, width int) {
		for i := width - 1; i >= 0; i-- {
			b = append(b, byte(n>>(8*i)))
		}
	}
	number(uint64(s.Size), 4)
	number(s.Gen, 8)
	number(uint64(s.Table), 4)
	return string(append(b, s.Hash[:]...))
}

// sealed is bytes as the chapter of nodes has them in a block.
func sealed(bytes string) string {
	whole := bytes + strings.Repeat("\x00", api.BlockSize-4-len(bytes))
	sum, _ := pack.Number(uint64(pack.Sum(whole)), 4)
	return strings.TrimRight(sum+whole, "\x00")
}

// dataOf is a right superblock's data.
func dataOf(t *testing.T, s api.Super) string {
	t.Helper()
	data, why := super.Encode(s)
	if why != api.OK {
		t.Fatalf("Encode of %v: error %d", s, why)
	}
	return data
}

func wantBad(t *testing.T, what, data string) {
	t.Helper()
	if s, why := super.Decode(data); s != (api.Super{}) || why != api.ErrBad {
		t.Errorf("Decode of %s: %v, error %d", what, s, why)
	}
}

// 9.1: what a right superblock is.
func TestCheck(t *testing.T) {
	for i, s := range rightSupers() {
		if why := super.Check(s); why != api.OK {
			t.Errorf("right one %d: error %d", i, why)
		}
	}
	for i, s := range wrongSupers() {
		if why := super.Check(s); why != api.ErrForm {
			t.Errorf("wrong one %d: error %d", i, why)
		}
	}
}

// 9.1: a superblock's data; one that is not right has none.
func TestEncode(t *testing.T) {
	want := "CB" + "\x00\x00\x12\x34" + "\x00\x00\x00\x00\x00\x00\x00\x05" + "\x00\x00\x04\x56" + string(someHash[:])
	if data := dataOf(t, example(5)); data != sealed(want) || data[4:] != want {
		t.Errorf("Encode: %q", data)
	}
	for i, s := range rightSupers() {
		data := dataOf(t, s)
		if data != sealed(bytesOf(s)) {
			t.Errorf("right one %d: Encode: %q", i, data)
		}
		if strings.HasSuffix(data, "\x00") {
			t.Errorf("right one %d: Encode: zero bytes at the end", i)
		}
	}
	for i, s := range wrongSupers() {
		if data, why := super.Encode(s); data != "" || why != api.ErrForm {
			t.Errorf("wrong one %d: Encode: %q, error %d", i, data, why)
		}
	}
}

// 9.1 and 9.4: what was written of a superblock is read as it, and is written so again.
func TestThereAndBack(t *testing.T) {
	for i, s := range rightSupers() {
		data := sealed(bytesOf(s))
		got, why := super.Decode(data)
		if got != s || why != api.OK {
			t.Errorf("%d: Decode: %v, error %d", i, got, why)
		}
		if again := dataOf(t, got); again != data {
			t.Errorf("%d: Encode of Decode: %q", i, again)
		}
	}
}

// 9.1: data of a superblock that is not right are none.
func TestDecodeOfWrongSupers(t *testing.T) {
	for _, s := range wrongSupers() {
		wantBad(t, "one that is not right", sealed(bytesOf(s)))
	}
}

// 9.1: other data are none, even if their sum is right.
func TestDecodeOfWrongData(t *testing.T) {
	bytes := bytesOf(example(5))
	data := sealed(bytes)
	padded := data + strings.Repeat("\x00", api.BlockSize-len(data))
	for what, data := range map[string]string{
		"nothing":                       "",
		"a few bytes":                   data[:9],
		"a sum alone":                   data[:4],
		"no sum":                        bytes,
		"a zero byte at the end":        data + "\x00",
		"a block's zero bytes":          padded,
		"too many bytes":                padded + "x",
		"too many zero bytes":           padded + "\x00",
		"a byte cut off":                data[:len(data)-1],
		"something behind it":           data + "x",
		"something behind it, summed":   sealed(bytes + "x"),
		"something far behind, summed":  sealed(bytes + strings.Repeat("\x00", api.BlockSize-4-len(bytes)-1) + "x"),
		"bytes that end early, summed":  sealed(bytes[:14]),
		"no mark, summed":               sealed(bytes[2:]),
		"a mark alone, summed":          sealed(bytes[:2]),
		"another first letter, summed":  sealed("\x44" + bytes[1:]),
		"another second letter, summed": sealed(bytes[:1] + "\x43" + bytes[2:]),
		"a mark turned round, summed":   sealed("\x42\x43" + bytes[2:]),
		"something ahead of it, summed": sealed("\x00" + bytes),
		"zero bytes, summed":            sealed(""),
		"another one's sum":             sealed(bytesOf(example(6)))[:4] + bytes,
	} {
		wantBad(t, what, data)
	}
}

// 9.5: a node's data are no superblock's, and a superblock's no node's.
func TestNoNode(t *testing.T) {
	leaf := api.Node{Kind: api.NodeLeaf, Items: []api.Item{{Key: "a", Val: strings.Repeat("v", 90)}}}
	branch := api.Node{Kind: api.NodeBranch, Kids: []api.Kid{{Key: "k", Num: 7, Hash: someHash}}}
	table := api.Node{Kind: api.NodeTable, Volumes: []api.Volume{{Name: "v", Kind: api.VolBranch, Born: 1, Root: 2, Hash: someHash}}}
	for _, n := range []api.Node{leaf, branch, table, {Kind: api.NodeTable}} {
		data, why := node.Encode(n)
		if why != api.OK {
			t.Fatalf("Encode of a node: error %d", why)
		}
		wantBad(t, "a node", data)
	}
	for i, s := range rightSupers() {
		if _, why := node.Decode(dataOf(t, s)); why != api.ErrBad {
			t.Errorf("superblock %d: it is a node, too: error %d", i, why)
		}
	}
}

// 9.6: data with one bit turned, be it behind them, are none.
func TestTurned(t *testing.T) {
	for _, s := range rightSupers() {
		data := dataOf(t, s)
		whole := []byte(data + strings.Repeat("\x00", api.BlockSize-len(data)))
		for bit := range 8 * len(whole) {
			whole[bit/8] ^= 1 << (bit % 8)
			wantBad(t, "data with a bit turned", strings.TrimRight(string(whole), "\x00"))
			if bit < 8*len(data) {
				wantBad(t, "data of the same length with a bit turned", string(whole[:len(data)]))
			}
			whole[bit/8] ^= 1 << (bit % 8)
		}
	}
}

// 9.1: the slot is Gen, modulo 2, be the superblock right or not.
func TestSlot(t *testing.T) {
	for gen, want := range map[uint64]int{0: 0, 1: 1, 2: 0, 5: 1, api.MaxGen - 1: 1, api.MaxGen: 0, math.MaxUint64 - 1: 0, math.MaxUint64: 1} {
		if got := super.Slot(api.Super{Gen: gen}); got != want {
			t.Errorf("Slot at %d: %d", gen, got)
		}
	}
}

// 9.2: the superblocks that stand in their slots, the newest one first.
func TestOrder(t *testing.T) {
	data := func(gen uint64) string { return dataOf(t, example(gen)) }
	for i, x := range []struct {
		a, b string
		want []uint64 // the Gens
	}{
		{"", "", nil},
		{data(4), data(5), []uint64{5, 4}},
		{data(6), data(5), []uint64{6, 5}},
		{data(2), data(99), []uint64{99, 2}},
		{data(api.MaxGen), data(1), []uint64{api.MaxGen, 1}},
		{data(2), data(api.MaxGen - 1), []uint64{api.MaxGen - 1, 2}},
		{data(4), "", []uint64{4}},
		{"", data(5), []uint64{5}},
		{data(5), "", nil},
		{"", data(4), nil},
		{data(5), data(4), nil},
		{data(5), data(5), []uint64{5}},
		{data(4), data(4), []uint64{4}},
		{data(7), data(5), []uint64{5}},
		{data(4), data(6), []uint64{4}},
		{data(4), data(5) + "\x00", []uint64{4}},
		{data(4)[1:], data(5), []uint64{5}},
		{data(4), sealed(bytesOf(with(func(s *api.Super) { s.Table = 1 }))), []uint64{4}},
		{sealed(bytesOf(example(0))), data(1), []uint64{1}},
	} {
		var gens []uint64
		for _, s := range super.Order(x.a, x.b) {
			if s != example(s.Gen) {
				t.Errorf("%d: Order: %v", i, s)
			}
			gens = append(gens, s.Gen)
		}
		if !slices.Equal(gens, x.want) {
			t.Errorf("%d: Order: %v, not %v", i, gens, x.want)
		}
	}
}

// 9.3: an answer shares nothing with an earlier one.
func TestNewMemory(t *testing.T) {
	a, b := dataOf(t, example(4)), dataOf(t, example(5))
	first := super.Order(a, b)
	for i := range first {
		first[i] = api.Super{}
	}
	_ = append(first, api.Super{Gen: 9})
	want := []api.Super{example(5), example(4)}
	if again := super.Order(a, b); !slices.Equal(again, want) {
		t.Errorf("Order changed with an earlier answer: %v", again)
	}
}
