package super

import (
	"cmp"
	"slices"
	"sync"

	"cambium/api"
)

// pair is what both slots have.
type pair struct {
	data  [slots]string
	once  sync.Once
	order []api.Super // made when it is first asked for
}

// newestFirst has the superblocks that stand in their slots, the greater Gen first.
func (p *pair) newestFirst() []api.Super {
	p.once.Do(p.makeOrder)
	return p.order
}

func (p *pair) makeOrder() {
	for slot, data := range p.data {
		if s, why := Decode(data); why == api.OK && Slot(s) == slot {
			p.order = append(p.order, s)
		}
	}
	slices.SortFunc(p.order, func(a, b api.Super) int { return cmp.Compare(b.Gen, a.Gen) })
}
