package node_test

import (
	"slices"
	"strings"
	"testing"

	"cambium/api"
	"cambium/node"
)

// bytesOf writes any node's bytes, be it right or not, so long as lengths go into a byte.
func bytesOf(n api.Node) string {
	var b []byte
	text := func(t string) {
		b = append(b, byte(len(t)))
		b = append(b, t...)
	}
	number := func(n uint64, width int) {
		for i := width - 1; i >= 0; i-- {
			b = append(b, byte(n>>(8*i)))
		}
	}
	number(uint64(n.Kind), 1)
	number(uint64(len(n.Items)+len(n.Kids)+len(n.Volumes)), 1)
	for _, x := range n.Items {
		text(x.Key)
		text(x.Val)
	}
	for _, k := range n.Kids {
		text(k.Key)
		number(uint64(k.Num), 4)
		b = append(b, k.Hash[:]...)
	}
	for _, v := range n.Volumes {
		text(v.Name)
		text(v.From)
		number(uint64(v.Kind), 1)
		number(v.Born, 8)
		number(uint64(v.Root), 4)
		b = append(b, v.Hash[:]...)
	}
	return string(b)
}

func wantBad(t *testing.T, what, data string) {
	t.Helper()
	if n, why := node.Decode(data); !like(n, api.Node{}) || why != api.ErrBad {
		t.Errorf("Decode of %s: %v, error %d", what, n, why)
	}
}

// 5.2: a right node's data are that node.
func TestDecode(t *testing.T) {
	for i, x := range written() {
		if n, why := node.Decode(sealed(x.bytes)); !like(n, x.n) || why != api.OK {
			t.Errorf("%d: Decode: %v, error %d", i, n, why)
		}
	}
}

// 5.2: bytes that are sealed, but are no right node's, are an error.
func TestDecodeOfWrongNodes(t *testing.T) {
	for _, n := range wrongNodes() {
		if bytes := bytesOf(n); len(bytes) <= space {
			wantBad(t, "a wrong node", sealed(bytes))
		}
	}
	whole := bytesOf(fullLeaf(space))
	long := manyKids(13)
	long.Kids[12].Key, long.Kids[12].Hash = longKey[:14], someHash
	for _, bytes := range []string{
		"",
		"\x01",
		"\x02",
		"\x00\x01\x01a\x011",
		"\x04\x01\x01a\x011",
		"\x04",
		"\xff\x00",
		"\x01\x00\x01a\x011",
		"\x01\x02\x01a\x011",          // fewer than it says
		"\x01\x03\x01a\x011\x01b\x00", // likewise
		"\x01\x01\x01a\x011\x01b\x00", // more than it says
		"\x01\x01\x01a\x011\x00\x00x", // something behind zero bytes
		"\x03\x00\x01",                // something behind a table of nothing
		"\x01\xff" + whole[2:],        // it would go on behind the block's end
		"\x01\x05" + bytesOf(fullLeaf(space - 2))[2:] + "\x01x", // the end is where a length would be
		whole[:len(whole)-75] + "\x4b" + whole[len(whole)-74:],  // where a text's last byte would be
		bytesOf(long)[:space], // where a hash's last byte would be
		"\x02\x0e" + bytesOf(manyKids(13))[2:],
		"\x03\x07" + bytesOf(manyVolumes(6))[2:],
	} {
		if len(bytes) > space {
			t.Fatalf("%d bytes", len(bytes))
		}
		wantBad(t, "wrong bytes", sealed(bytes))
	}
}

// 5.2: data that are too long, end with a zero byte, or whose sum is another one, are an error.
func TestDecodeOfWrongData(t *testing.T) {
	for _, n := range rightNodes() {
		data, _ := node.Encode(n)
		wantBad(t, "data and a zero byte", data+"\x00")
		if len(data) < api.BlockSize {
			wantBad(t, "data, filled up", data+strings.Repeat("\x00", api.BlockSize-len(data)))
		}
		wantBad(t, "data, filled up beyond a block", data+strings.Repeat("\x00", api.BlockSize+1-len(data)))
		wantBad(t, "data, and more than a block", data+strings.Repeat("\x00", api.BlockSize-len(data))+"x")
		wantBad(t, "data without a byte at the end", strings.TrimRight(data[:len(data)-1], "\x00"))
		wantBad(t, "bytes without a sum", data[4:])
		wantBad(t, "bytes behind a zero sum", "\x00\x00\x00\x00"+data[4:])
		wantBad(t, "bytes behind a turned sum", data[3:4]+data[2:3]+data[1:2]+data[:1]+data[4:])
	}
	wantBad(t, "nothing", "")
	wantBad(t, "a sum alone", "\x00\x00\x00\x01")
	wantBad(t, "half a sum", "\x81\x41")
	wantBad(t, "much", strings.Repeat("x", 100000))
}

// 5.2: a block that is filled up to its last byte is read.
func TestDecodeOfAFullBlock(t *testing.T) {
	data, why := node.Encode(fullLeaf(space))
	if why != api.OK || len(data) != api.BlockSize {
		t.Fatalf("Encode: %d bytes, error %d", len(data), why)
	}
	if n, why := node.Decode(data); !like(n, fullLeaf(space)) || why != api.OK {
		t.Errorf("Decode: error %d", why)
	}
}

// someNodes are right ones in a mixed order.
func someNodes(count int) []api.Node {
	x := uint32(11)
	below := func(n int) int {
		x = x*1664525 + 1013904223
		return int(x>>16) % n
	}
	text := func(least, most int) string {
		b := make([]byte, least+below(most-least+1))
		for i := range b {
			b[i] = byte([]int{0, 1, 'a', 255, below(256)}[below(5)])
		}
		return string(b)
	}
	hash := func() (h [32]byte) {
		for i := range below(33) {
			h[i] = byte(below(256))
		}
		return h
	}
	var nodes []api.Node
	for len(nodes) < count {
		n := api.Node{Kind: api.NodeKind(1 + below(3))}
		for range below(7) {
			switch n.Kind {
			case api.NodeLeaf:
				n.Items = append(n.Items, api.Item{Key: text(1, 9), Val: text(0, 60)})
			case api.NodeBranch:
				n.Kids = append(n.Kids, api.Kid{Key: text(1, 20), Num: uint32(below(api.MaxBlocks)), Hash: hash()})
			case api.NodeTable:
				n.Volumes = append(n.Volumes, api.Volume{Name: text(1, 16), Kind: api.VolKind(1 + below(2)), From: text(0, 16), Born: uint64(below(60000)), Root: uint32(below(9)), Hash: hash()})
			}
		}
		slices.SortFunc(n.Items, func(a, b api.Item) int { return strings.Compare(a.Key, b.Key) })
		slices.SortFunc(n.Kids, func(a, b api.Kid) int { return strings.Compare(a.Key, b.Key) })
		slices.SortFunc(n.Volumes, func(a, b api.Volume) int { return strings.Compare(a.Name, b.Name) })
		if node.Check(n) == api.OK {
			nodes = append(nodes, n)
		}
	}
	return nodes
}

// 5.4: what is decoded of what was encoded is the node, and encoded again it is the data.
func TestThereAndBack(t *testing.T) {
	for i, n := range append(rightNodes(), someNodes(2000)...) {
		data, why := node.Encode(n)
		if why != api.OK || len(data) > api.BlockSize || strings.HasSuffix(data, "\x00") {
			t.Fatalf("%d: Encode: %d bytes, error %d", i, len(data), why)
		}
		if data != sealed(bytesOf(n)) {
			t.Errorf("%d: Encode: %q", i, data)
		}
		if size := node.Size(n); size != len(bytesOf(n)) {
			t.Errorf("%d: Size: %d, not %d", i, size, len(bytesOf(n)))
		}
		got, why := node.Decode(data)
		if !like(got, n) || why != api.OK {
			t.Fatalf("%d: Decode: %v, not %v, error %d", i, got, n, why)
		}
		if again, why := node.Encode(got); again != data || why != api.OK {
			t.Errorf("%d: Encode of what was decoded: %q, not %q, error %d", i, again, data, why)
		}
	}
}

// 5.5: with one bit turned, be it of the data or of the zero bytes behind them, they are none.
func TestTurned(t *testing.T) {
	for _, n := range rightNodes() {
		data, _ := node.Encode(n)
		whole := []byte(data + strings.Repeat("\x00", api.BlockSize-len(data)))
		for bit := range 8 * len(whole) {
			whole[bit/8] ^= 1 << (bit % 8)
			wantBad(t, "data with a bit turned", strings.TrimRight(string(whole), "\x00"))
			if bit < 8*len(data) {
				wantBad(t, "data of the same length with a bit turned", string(whole[:len(data)]))
			}
			whole[bit/8] ^= 1 << (bit % 8)
		}
	}
}

// 5.3: what is handed in stays as it is, and an answer shares nothing with another one.
func TestNewMemory(t *testing.T) {
	for i, n := range rightNodes() {
		kept := api.Node{Kind: n.Kind, Items: slices.Clone(n.Items), Kids: slices.Clone(n.Kids), Volumes: slices.Clone(n.Volumes)}
		data, _ := node.Encode(n)
		node.Check(n)
		node.Size(n)
		nums := node.Kids(n)
		if !like(n, kept) {
			t.Errorf("%d: the node was changed: %v", i, n)
		}
		got, _ := node.Decode(data)
		overwrite(got)
		again, _ := node.Decode(data)
		if !like(again, kept) {
			t.Errorf("%d: Decode changed with an earlier answer: %v", i, again)
		}
		for j := range nums {
			nums[j] = 77
		}
		_ = append(nums, 77)
		if later := node.Kids(n); !like(n, kept) || slices.Contains(later, 77) {
			t.Errorf("%d: Kids changed with an earlier answer: %v", i, later)
		}
	}
}

func overwrite(n api.Node) {
	for i := range n.Items {
		n.Items[i] = api.Item{Key: "overwritten"}
	}
	for i := range n.Kids {
		n.Kids[i] = api.Kid{Key: "overwritten"}
	}
	for i := range n.Volumes {
		n.Volumes[i] = api.Volume{Name: "overwritten"}
	}
}
