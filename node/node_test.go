package node_test

import (
	"math"
	"slices"
	"strings"
	"testing"

	"cambium/api"
	"cambium/node"
	"cambium/pack"
)

const space = api.BlockSize - 4 // bytes of a node, at most

var (
	longKey  = strings.Repeat("k", api.MaxKey)
	longVal  = strings.Repeat("v", api.MaxVal)
	longName = strings.Repeat("n", api.MaxVolume)
	someHash = [32]byte{0: 1, 15: 0xfe, 31: 0xff}
	zeroTail = [32]byte{0: 9, 30: 7} // ends with a zero byte
)

// like tells if two nodes are one: nil and empty lists are alike.
func like(a, b api.Node) bool {
	return a.Kind == b.Kind && slices.Equal(a.Items, b.Items) && slices.Equal(a.Kids, b.Kids) && slices.Equal(a.Volumes, b.Volumes)
}

func leaf(pairs ...string) api.Node {
	n := api.Node{Kind: api.NodeLeaf}
	for i := 0; i < len(pairs); i += 2 {
		n.Items = append(n.Items, api.Item{Key: pairs[i], Val: pairs[i+1]})
	}
	return n
}

func branch(kids ...api.Kid) api.Node {
	return api.Node{Kind: api.NodeBranch, Kids: kids}
}

func table(volumes ...api.Volume) api.Node {
	return api.Node{Kind: api.NodeTable, Volumes: volumes}
}

func main() api.Volume {
	return api.Volume{Name: "main", Kind: api.VolBranch, Born: 1, Root: 2, Hash: someHash}
}

// other is the volume main with something else in it.
func other(change func(v *api.Volume)) api.Node {
	v := main()
	change(&v)
	return table(v)
}

// manyItems has n items, at most 256, of three bytes each.
func manyItems(n int) api.Node {
	l := leaf()
	for i := range n {
		l.Items = append(l.Items, api.Item{Key: string([]byte{byte(i)})})
	}
	return l
}

// manyKids has n kids, at most 256, of 38 bytes each.
func manyKids(n int) api.Node {
	b := branch()
	for i := range n {
		b.Kids = append(b.Kids, api.Kid{Key: string([]byte{byte(i)}), Num: 2})
	}
	return b
}

// manyVolumes has n volumes that are as long as one can be.
func manyVolumes(n int) api.Node {
	t := table()
	for i := range n {
		name := longName[1:] + string([]byte{byte('a' + i)})
		t.Volumes = append(t.Volumes, api.Volume{Name: name, Kind: api.VolSnap, From: longName, Born: math.MaxUint64, Root: api.MaxBlocks - 1, Hash: someHash})
	}
	return t
}

// fullLeaf has as many bytes as is said, from 434 to 594.
func fullLeaf(size int) api.Node {
	return leaf("a", longVal, "b", longVal, "c", longVal[:100], "d", strings.Repeat("d", size-434))
}

func rightNodes() []api.Node {
	return []api.Node{
		leaf("a", "1"),
		leaf("a", "", "aa", "", "b", "\x00\x00"),
		leaf("\x00", "", "\x00\x00", "", "\xff", "\xff"),
		leaf(longKey, longVal),
		manyItems(1),
		manyItems(168),
		fullLeaf(507),
		fullLeaf(space),
		branch(api.Kid{Key: "a", Num: 2}),
		branch(api.Kid{Key: "a", Num: 2, Hash: someHash}, api.Kid{Key: "b", Num: 2, Hash: someHash}),
		branch(api.Kid{Key: "\x00", Num: api.MaxBlocks - 1, Hash: zeroTail}),
		branch(api.Kid{Key: longKey, Num: 3, Hash: zeroTail}),
		manyKids(13),
		{Kind: api.NodeBranch, Items: []api.Item{}, Kids: []api.Kid{{Key: "k", Num: 9}}, Volumes: []api.Volume{}},
		table(),
		{Kind: api.NodeTable, Items: []api.Item{}, Kids: []api.Kid{}, Volumes: []api.Volume{}},
		table(main()),
		table(api.Volume{Name: "a", Kind: api.VolSnap}, api.Volume{Name: "aa", Kind: api.VolBranch, From: "a"}),
		other(func(v *api.Volume) { v.Root, v.Hash = 0, [32]byte{} }),
		other(func(v *api.Volume) { v.Hash = [32]byte{} }),
		other(func(v *api.Volume) { v.Root, v.Born = api.MaxBlocks-1, math.MaxUint64 }),
		other(func(v *api.Volume) { v.Name, v.From = longName, longName }),
		manyVolumes(6),
	}
}

// wrongNodes are not right, whatever their bytes.
func wrongNodes() []api.Node {
	wrong := []api.Node{
		{},
		{Kind: api.NodeCount},
		{Kind: 255},
		{Items: leaf("a", "1").Items},
		{Kind: api.NodeCount, Kids: []api.Kid{{Key: "a", Num: 2}}},
		{Kind: api.NodeLeaf},
		{Kind: api.NodeLeaf, Items: leaf("a", "1").Items, Kids: []api.Kid{{Key: "a", Num: 2}}},
		{Kind: api.NodeLeaf, Items: leaf("a", "1").Items, Volumes: []api.Volume{main()}},
		leaf("", "1"),
		leaf(longKey+"k", ""),
		leaf("a", longVal+"v"),
		leaf("a", "1", "a", "1"),
		leaf("b", "1", "a", "1"),
		leaf("a", "1", "c", "1", "b", "1"),
		manyItems(256),
		{Kind: api.NodeBranch},
		{Kind: api.NodeBranch, Kids: []api.Kid{{Key: "a", Num: 2}}, Items: leaf("a", "1").Items},
		{Kind: api.NodeBranch, Kids: []api.Kid{{Key: "a", Num: 2}}, Volumes: []api.Volume{main()}},
		branch(api.Kid{Num: 2}),
		branch(api.Kid{Key: longKey + "k", Num: 2}),
		branch(api.Kid{Key: "a"}),
		branch(api.Kid{Key: "a", Num: 1}),
		branch(api.Kid{Key: "a", Num: api.MaxBlocks}),
		branch(api.Kid{Key: "a", Num: math.MaxUint32}),
		branch(api.Kid{Key: "a", Num: 2}, api.Kid{Key: "a", Num: 3}),
		branch(api.Kid{Key: "b", Num: 2}, api.Kid{Key: "a", Num: 3}),
		branch(api.Kid{Key: "a", Num: 2}, api.Kid{Key: "b", Num: 1}),
		manyKids(256),
		{Kind: api.NodeTable, Items: leaf("a", "1").Items},
		{Kind: api.NodeTable, Kids: []api.Kid{{Key: "a", Num: 2}}},
		manyVolumes(7),
		table(main(), main()),
		table(main(), api.Volume{Name: "a", Kind: api.VolSnap}),
	}
	for _, change := range []func(v *api.Volume){
		func(v *api.Volume) { v.Name = "" },
		func(v *api.Volume) { v.Name = longName + "n" },
		func(v *api.Volume) { v.From = longName + "n" },
		func(v *api.Volume) { v.Kind = api.VolNone },
		func(v *api.Volume) { v.Kind = api.VolCount },
		func(v *api.Volume) { v.Kind = 255 },
		func(v *api.Volume) { v.Root = 0 },
		func(v *api.Volume) { v.Root, v.Hash = 0, [32]byte{31: 1} },
		func(v *api.Volume) { v.Root = 1 },
		func(v *api.Volume) { v.Root, v.Hash = 1, [32]byte{} },
		func(v *api.Volume) { v.Root = api.MaxBlocks },
		func(v *api.Volume) { v.Root = math.MaxUint32 },
	} {
		wrong = append(wrong, other(change))
	}
	return wrong
}

// longNodes are right but for having too many bytes.
func longNodes() []api.Node {
	return []api.Node{fullLeaf(space + 1), fullLeaf(api.BlockSize), manyItems(169), manyItems(255), manyKids(14), manyKids(255)}
}

// 5.1: what a right node is, and that one of too many bytes is told as such only if nothing else is wrong.
func TestCheck(t *testing.T) {
	for i, n := range rightNodes() {
		if why := node.Check(n); why != api.OK {
			t.Errorf("right node %d: error %d", i, why)
		}
	}
	for i, n := range wrongNodes() {
		if why := node.Check(n); why != api.ErrForm {
			t.Errorf("wrong node %d: error %d", i, why)
		}
	}
	for i, n := range longNodes() {
		if why := node.Check(n); why != api.ErrLong {
			t.Errorf("long node %d: error %d", i, why)
		}
		n.Volumes = []api.Volume{main()}
		if why := node.Check(n); why != api.ErrForm {
			t.Errorf("long and wrong node %d: error %d", i, why)
		}
	}
}

// 5.1: how many bytes a node has, be it right or not: of what its kind has alone.
func TestSize(t *testing.T) {
	every := api.Node{Items: leaf("a", "1", "bb", "").Items, Kids: manyKids(2).Kids, Volumes: []api.Volume{main(), {}}}
	ofKind := func(kind api.NodeKind) api.Node {
		every.Kind = kind
		return every
	}
	for i, x := range []struct {
		n    api.Node
		want int
	}{
		{api.Node{}, 2},
		{ofKind(api.NodeNone), 2},
		{ofKind(api.NodeCount), 2},
		{ofKind(255), 2},
		{ofKind(api.NodeLeaf), 2 + 4 + 4},
		{ofKind(api.NodeBranch), 2 + 2*38},
		{ofKind(api.NodeTable), 2 + 51 + 47},
		{leaf(), 2},
		{leaf("", ""), 4},
		{leaf("a", "1"), 6},
		{leaf(strings.Repeat("k", 1000), strings.Repeat("v", 5000)), 6004},
		{manyItems(256), 2 + 256*3},
		{branch(api.Kid{}), 2 + 37},
		{branch(api.Kid{Key: strings.Repeat("k", 300)}), 2 + 337},
		{manyKids(255), 2 + 255*38},
		{table(), 2},
		{manyVolumes(6), 2 + 6*79},
		{manyVolumes(9), 2 + 9*79},
		{table(api.Volume{Name: "abc", From: strings.Repeat("f", 400)}), 2 + 47 + 3 + 400},
		{fullLeaf(space), space},
	} {
		if got := node.Size(x.n); got != x.want {
			t.Errorf("%d: Size: %d, not %d", i, got, x.want)
		}
	}
}

// sealed is the data of a block of which a node's bytes are so.
func sealed(bytes string) string {
	whole := bytes + strings.Repeat("\x00", space-len(bytes))
	sum, _ := pack.Number(uint64(pack.Sum(whole)), 4)
	return strings.TrimRight(sum+whole, "\x00")
}

// written has nodes, and their bytes as the chapter has them.
func written() []struct {
	n     api.Node
	bytes string
} {
	hash := string(someHash[:])
	return []struct {
		n     api.Node
		bytes string
	}{
		{leaf("a", "1"), "\x01\x01\x01a\x011"},
		{leaf("a", "", "bc", "\x00x\x00"), "\x01\x02\x01a\x00\x02bc\x03\x00x\x00"},
		{leaf(longKey, longVal), "\x01\x01\x30" + longKey + "\xa0" + longVal},
		{branch(api.Kid{Key: "a", Num: 0x0203, Hash: someHash}), "\x02\x01\x01a\x00\x00\x02\x03" + hash},
		{branch(api.Kid{Key: "a", Num: 2}, api.Kid{Key: "bb", Num: 0xffff, Hash: zeroTail}),
			"\x02\x02\x01a\x00\x00\x00\x02" + strings.Repeat("\x00", 32) + "\x02bb\x00\x00\xff\xff" + string(zeroTail[:])},
		{table(), "\x03\x00"},
		{table(main()), "\x03\x01\x04main\x00\x01\x00\x00\x00\x00\x00\x00\x00\x01\x00\x00\x00\x02" + hash},
		{table(api.Volume{Name: "a", Kind: api.VolSnap, From: "main", Born: 0x0102030405060708}, main()),
			"\x03\x02\x01a\x04main\x02\x01\x02\x03\x04\x05\x06\x07\x08\x00\x00\x00\x00" + strings.Repeat("\x00", 32) +
				"\x04main\x00\x01\x00\x00\x00\x00\x00\x00\x00\x01\x00\x00\x00\x02" + hash},
	}
}

// 5.1: the data are the bytes behind their sum, cut; an error tells nothing else.
func TestEncode(t *testing.T) {
	for i, x := range written() {
		if data, why := node.Encode(x.n); data != sealed(x.bytes) || why != api.OK {
			t.Errorf("%d: Encode: %q, error %d", i, data, why)
		}
	}
	for i, n := range wrongNodes() {
		if data, why := node.Encode(n); data != "" || why != api.ErrForm {
			t.Errorf("wrong node %d: %q, error %d", i, data, why)
		}
	}
	for i, n := range longNodes() {
		if data, why := node.Encode(n); data != "" || why != api.ErrLong {
			t.Errorf("long node %d: %q, error %d", i, data, why)
		}
	}
}

// 5.1: the sum is of the bytes filled up, and stands ahead of them, the highest byte first.
func TestSumOfTheData(t *testing.T) {
	data, why := node.Encode(leaf("a", "1"))
	if why != api.OK || len(data) != 10 || data[4:] != "\x01\x01\x01a\x011" {
		t.Fatalf("Encode: %q, error %d", data, why)
	}
	var sum uint32
	for _, b := range []byte(data[4:] + strings.Repeat("\x00", api.BlockSize-10)) {
		sum ^= uint32(b) << 24
		for range 8 {
			top := sum >> 31
			sum = sum<<1 ^ top*2168537515
		}
	}
	if got := uint32(data[0])<<24 | uint32(data[1])<<16 | uint32(data[2])<<8 | uint32(data[3]); got != sum {
		t.Errorf("the sum is %x, not %x", got, sum)
	}
}

// 5.2: where a node leads, in order, as often as it leads there; only branches and tables lead anywhere.
func TestKids(t *testing.T) {
	every := api.Node{
		Items:   leaf("a", "1").Items,
		Kids:    []api.Kid{{Key: "b", Num: 7}, {Key: "a", Num: 0}, {Num: 7}, {Key: "c", Num: math.MaxUint32}},
		Volumes: []api.Volume{{Name: "v", Root: 9}, {Name: "v"}, {Root: 4}, {Root: 9}, {Root: 1}},
	}
	for _, x := range []struct {
		kind api.NodeKind
		want []uint32
	}{
		{api.NodeNone, nil},
		{api.NodeLeaf, nil},
		{api.NodeBranch, []uint32{7, 0, 7, math.MaxUint32}},
		{api.NodeTable, []uint32{9, 4, 9, 1}},
		{api.NodeCount, nil},
		{255, nil},
	} {
		every.Kind = x.kind
		if got := node.Kids(every); !slices.Equal(got, x.want) {
			t.Errorf("kind %d: Kids: %v, not %v", x.kind, got, x.want)
		}
	}
	for _, n := range []api.Node{{}, leaf(), branch(), table()} {
		if got := node.Kids(n); len(got) != 0 {
			t.Errorf("Kids of nothing: %v", got)
		}
	}
}

// 5.2: each of these is named with its Hash, and without a Key.
func TestNamed(t *testing.T) {
	a, b := api.Kid{Key: "a", Num: 7, Hash: someHash}, api.Kid{Key: "b", Num: 7, Hash: zeroTail}
	v := []api.Volume{{Name: "v", Root: 9, Hash: someHash}, {Name: "w"}, {Name: "x", Root: 4}, {Name: "y", Root: 9, Hash: zeroTail}}
	for _, x := range []struct {
		n    api.Node
		want []api.Kid
	}{
		{branch(a, b), []api.Kid{{Num: 7, Hash: someHash}, {Num: 7, Hash: zeroTail}}},
		{table(v...), []api.Kid{{Num: 9, Hash: someHash}, {Num: 4}, {Num: 9, Hash: zeroTail}}},
		{leaf("a", "1"), nil},
		{api.Node{Kind: api.NodeCount, Kids: []api.Kid{a}, Volumes: v}, nil},
	} {
		got := node.Named(x.n)
		if !slices.Equal(got, x.want) {
			t.Errorf("Named: %v, not %v", got, x.want)
		}
		for i := range got {
			got[i].Num = 77
		}
		if !slices.Equal(node.Named(x.n), x.want) {
			t.Errorf("Named changed with an earlier answer")
		}
	}
}

// 5.1: any bytes are sealed as a node's are, if they are no more than a node may have.
func TestSeal(t *testing.T) {
	full := strings.Repeat("x", space)
	for _, bytes := range []string{"", "\x00", "x", "\x00x\x00\x00", full[1:] + "\x00", full} {
		if data, why := node.Seal(bytes); data != sealed(bytes) || why != api.OK {
			t.Errorf("Seal of %q: %q, error %d", bytes, data, why)
		}
	}
	for _, bytes := range []string{full + "x", full + "\x00", full + full} {
		if data, why := node.Seal(bytes); data != "" || why != api.ErrLong {
			t.Errorf("Seal of %d bytes: %q, error %d", len(bytes), data, why)
		}
	}
}
