package node

import (
	"strings"

	"cambium/api"
	"cambium/pack"
)

const (
	sumWidth    = 4                        // bytes of the sum, ahead of a node's bytes
	space       = api.BlockSize - sumWidth // bytes of a node, at most
	kindWidth   = 1
	countWidth  = 1
	headSize    = kindWidth + countWidth // bytes of a node ahead of its entries
	lengthWidth = 1                      // bytes that tell a text's length
	numWidth    = 4                      // bytes of a block's number
	bornWidth   = 8                      // bytes of a generation
	hashSize    = 32
	zeroByte    = "\x00" // what a block has where nothing was put
)

// sealed is bytes as a block has them: behind their sum, without the zero bytes at the end.
func sealed(bytes string) string {
	whole := filled(bytes, space)
	return strings.TrimRight(number(uint64(pack.Sum(whole)), sumWidth)+whole, zeroByte)
}

// opened is what stands behind the sum, with the zero bytes that were left out; false, if the data are not sealed.
func opened(data string) (string, bool) {
	if len(data) > api.BlockSize || strings.HasSuffix(data, zeroByte) {
		return "", false
	}
	t := taking{rest: filled(data, api.BlockSize)}
	sum := t.number(sumWidth)
	return t.rest, sum == uint64(pack.Sum(t.rest))
}

func filled(s string, size int) string {
	return s + strings.Repeat(zeroByte, size-len(s))
}

// written is the bytes of a right node.
func written(n api.Node) string {
	// A right node has entries of one sort alone.
	count := len(n.Items) + len(n.Kids) + len(n.Volumes)
	var b strings.Builder
	b.WriteString(number(uint64(n.Kind), kindWidth) + number(uint64(count), countWidth))
	for _, x := range n.Items {
		b.WriteString(text(x.Key) + text(x.Val))
	}
	for _, k := range n.Kids {
		b.WriteString(text(k.Key) + number(uint64(k.Num), numWidth) + string(k.Hash[:]))
	}
	for _, v := range n.Volumes {
		b.WriteString(text(v.Name) + text(v.From) + number(uint64(v.Kind), kindWidth) +
			number(v.Born, bornWidth) + number(uint64(v.Root), numWidth) + string(v.Hash[:]))
	}
	return b.String()
}

func textSize(t string) int {
	return lengthWidth + len(t)
}

func text(t string) string {
	return number(uint64(len(t)), lengthWidth) + t
}

// number leaves the error out: what a right node has is never too great for its width.
func number(n uint64, width int) string {
	s, _ := pack.Number(n, width)
	return s
}

// taken is the node that stands in bytes, be it right or not; false, if they end too soon, or something stands behind it.
func taken(bytes string) (api.Node, bool) {
	t := taking{rest: bytes}
	n := api.Node{Kind: api.NodeKind(t.number(kindWidth))}
	count := t.number(countWidth)
entries:
	for range count {
		switch n.Kind {
		case api.NodeLeaf:
			n.Items = append(n.Items, t.item())
		case api.NodeBranch:
			n.Kids = append(n.Kids, t.kid())
		case api.NodeTable:
			n.Volumes = append(n.Volumes, t.volume())
		default:
			break entries
		}
		if t.short {
			break entries
		}
	}
	return n, !t.short && strings.Trim(t.rest, zeroByte) == ""
}

// taking is bytes from whose beginning one thing behind the other is taken.
type taking struct {
	rest  string
	short bool // they ended too soon
}

func (t *taking) item() api.Item {
	return api.Item{Key: t.text(), Val: t.text()}
}

func (t *taking) kid() api.Kid {
	return api.Kid{Key: t.text(), Num: uint32(t.number(numWidth)), Hash: t.hash()}
}

func (t *taking) volume() api.Volume {
	return api.Volume{
		Name: t.text(),
		From: t.text(),
		Kind: api.VolKind(t.number(kindWidth)),
		Born: t.number(bornWidth),
		Root: uint32(t.number(numWidth)),
		Hash: t.hash(),
	}
}

func (t *taking) hash() [hashSize]byte {
	var h [hashSize]byte
	copy(h[:], t.bytes(hashSize))
	return h
}

func (t *taking) text() string {
	return t.bytes(int(t.number(lengthWidth)))
}

func (t *taking) number(width int) uint64 {
	n, rest, why := pack.TakeNumber(t.rest, width)
	t.rest, t.short = rest, t.short || why != api.OK
	return n
}

func (t *taking) bytes(n int) string {
	if len(t.rest) < n {
		t.rest, t.short = "", true
		return ""
	}
	s := t.rest[:n]
	t.rest = t.rest[n:]
	return s
}
