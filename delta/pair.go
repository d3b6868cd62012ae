package delta

import (
	"slices"
	"sync"
)

// pair is two trees, of each its blocks, rising. Those of one of them alone are found when they are first asked for.
type pair struct {
	first, second []uint32
	once          sync.Once
	alone         [2][]uint32
}

func (p *pair) firstAlone() []uint32 {
	p.once.Do(p.find)
	return p.alone[0]
}

func (p *pair) secondAlone() []uint32 {
	p.once.Do(p.find)
	return p.alone[1]
}

func (p *pair) find() {
	p.alone = [2][]uint32{without(p.first, p.second), without(p.second, p.first)}
}

// without has the blocks that are not among others, which rise.
func without(blocks, others []uint32) []uint32 {
	var out []uint32
	for _, num := range blocks {
		if _, found := slices.BinarySearch(others, num); !found {
			out = append(out, num)
		}
	}
	return out
}
