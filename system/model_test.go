package system_test

import (
	"maps"
	"slices"
	"strings"

	"cambium/api"
	"cambium/delta"
	"cambium/dirs"
	"cambium/files"
	"cambium/item"
	"cambium/stream"
)

// plain is a volume as a plain list of items.
type plain struct {
	kind  api.VolKind
	from  string
	born  uint64
	items []api.Item
}

// model is a system that has such volumes, and nothing else.
type model struct {
	vols map[string]plain
	gen  uint64
}

func (m model) copied() model {
	m.vols = maps.Clone(m.vols)
	return m
}

func isName(s string) bool {
	return s != "" && len(s) <= 24 && s != "." && s != ".." && !strings.ContainsAny(s, "/\x00")
}

func (m model) mayAdd(name string) api.Errno {
	_, there := m.vols[name]
	switch {
	case !isName(name):
		return api.ErrName
	case len(name) > 16:
		return api.ErrLong
	case there:
		return api.ErrTwice
	case len(m.vols) >= 6:
		return api.ErrRange
	}
	return api.OK
}

func (m model) volOp(op api.VolOp) api.Errno {
	v, there := m.vols[op.Name]
	from, fromThere := m.vols[op.From]
	switch op.Kind {
	case api.VolOpMake, api.VolOpSnap, api.VolOpClone:
		if why := m.mayAdd(op.Name); why != api.OK {
			return why
		}
		made := plain{kind: api.VolBranch, born: m.gen, items: dirs.New()}
		if op.Kind != api.VolOpMake {
			if !fromThere {
				return api.ErrNone
			}
			made.from, made.items = op.From, from.items
		}
		if op.Kind == api.VolOpSnap {
			made.kind = api.VolSnap
		}
		m.vols[op.Name] = made
	case api.VolOpRoll:
		if !there || !fromThere {
			return api.ErrNone
		}
		if v.kind == api.VolSnap {
			return api.ErrSnap
		}
		v.items = from.items
		m.vols[op.Name] = v
	case api.VolOpDelete:
		if !there {
			return api.ErrNone
		}
		delete(m.vols, op.Name)
	default:
		return api.ErrForm
	}
	return api.OK
}

func (m model) file(c api.Call) (api.Heard, api.Errno) {
	v, there := m.vols[c.Name]
	if !there {
		return api.Heard{}, api.ErrNone
	}
	changes, told, why := files.Do(v.items, c.Op)
	switch c.Op.Kind {
	case api.OpRead, api.OpStat, api.OpList, api.OpGetAttr:
	default:
		if v.kind == api.VolSnap {
			return api.Heard{}, api.ErrSnap
		}
	}
	if why != api.OK {
		return api.Heard{}, why
	}
	v.items, why = item.Apply(v.items, changes)
	m.vols[c.Name] = v
	return api.Heard{Told: told}, why
}

func (m model) log(name string) (api.Heard, api.Errno) {
	var names []string
	for {
		v, there := m.vols[name]
		if !there || slices.Contains(names, name) {
			break
		}
		names = append(names, name)
		name = v.from
	}
	if names == nil {
		return api.Heard{}, api.ErrNone
	}
	return api.Heard{Names: names}, api.OK
}

// two are what From and Name have: a stream may be sent from nothing, too.
func (m model) two(c api.Call) (from, to []api.Item, why api.Errno) {
	v, there := m.vols[c.From]
	w, toThere := m.vols[c.Name]
	if !there && (c.Kind == api.CallPaths || c.From != "") || !toThere {
		return nil, nil, api.ErrNone
	}
	return v.items, w.items, api.OK
}

func (m model) take(c api.Call) api.Errno {
	v, there := m.vols[c.From]
	if !there && c.From != "" {
		return api.ErrNone
	}
	l, why := stream.Receive(v.items, c.Text)
	if why == api.OK {
		why = m.mayAdd(c.Name)
	}
	if why == api.OK {
		m.vols[c.Name] = plain{kind: api.VolSnap, from: c.From, born: m.gen, items: l}
	}
	return why
}

// list has the volumes without their trees.
func (m model) list() []api.Volume {
	var l []api.Volume
	for _, name := range slices.Sorted(maps.Keys(m.vols)) {
		v := m.vols[name]
		l = append(l, api.Volume{Name: name, Kind: v.kind, From: v.from, Born: v.born})
	}
	return l
}

// do does in the model what a call says.
func (m *model) do(c api.Call) (api.Heard, api.Errno) {
	switch c.Kind {
	case api.CallVol:
		return api.Heard{}, m.volOp(c.Vol)
	case api.CallFile:
		return m.file(c)
	case api.CallSync:
		m.gen++
		return api.Heard{}, api.OK
	case api.CallList:
		return api.Heard{Volumes: m.list()}, api.OK
	case api.CallLog:
		return m.log(c.Name)
	case api.CallPaths, api.CallSend:
		from, to, why := m.two(c)
		if why != api.OK {
			return api.Heard{}, why
		}
		if c.Kind == api.CallSend {
			text, why := stream.Send(from, to)
			return api.Heard{Text: text}, why
		}
		deltas, why := delta.Paths(from, to)
		return api.Heard{Deltas: deltas}, why
	case api.CallTake:
		return api.Heard{}, m.take(c)
	case api.CallScrub:
		return api.Heard{}, api.OK
	}
	return api.Heard{}, api.ErrForm
}

// maker makes calls in a mixed order.
type maker struct {
	choices
	streams []string // those that were heard of
}

func (x *maker) name() string {
	if x.below(50) == 0 {
		return one(&x.choices, []string{"", ".", "a/b", letters(16), letters(17), letters(25), "\x00", "none"})
	}
	return one(&x.choices, []string{"a", "a", "a", "b", "b", "c", "d", "e", "f", "g"})
}

func (x *maker) path() string {
	p := "/" + one(&x.choices, []string{"d", "e", "f", "l"})
	if x.below(3) > 0 {
		p = "/d" + p
	}
	if x.below(40) == 0 {
		return one(&x.choices, []string{"/", "", "f", "/f/", p + "//", "/" + letters(25), "/" + letters(256)})
	}
	return p
}

func (x *maker) op() api.Op {
	op := api.Op{
		Kind: api.OpKind(x.below(int(api.OpCount) + 1)),
		Path: x.path(),
		To:   x.path(),
		Mode: uint16(x.below(3)),
		Off:  one(&x.choices, []uint32{0, 1, 100, 300, api.MaxFile - 100}),
		N:    uint32(x.below(2) * x.below(500)),
		Data: strings.Repeat(string(rune('p'+x.below(3))), x.below(400)),
	}
	switch x.below(5) {
	case 0:
		op.Kind = one(&x.choices, []api.OpKind{api.OpMake, api.OpMkdir, api.OpMkdir})
	case 1:
		op.Kind = api.OpWrite
	}
	if op.Kind >= api.OpSetAttr && x.below(2) == 0 {
		op.To, op.Data = "k", letters(x.below(70))
	}
	return op
}

func (x *maker) call() api.Call {
	c := api.Call{Kind: api.CallFile, Name: x.name(), From: x.name(), Op: x.op()}
	switch x.below(20) {
	case 0:
		c.Kind = api.CallKind(x.below(int(api.CallCount) + 2))
	case 1, 2:
		c.Kind = api.CallVol
		c.Vol = api.VolOp{Kind: api.VolOpKind(x.below(int(api.VolOpCount) + 1)), Name: c.Name, From: c.From}
	case 3:
		c.Kind = api.CallVol
		c.Vol = api.VolOp{Kind: api.VolOpMake, Name: c.Name}
	case 4:
		c.Kind = api.CallSync
	case 5:
		c.Kind = one(&x.choices, []api.CallKind{api.CallList, api.CallLog, api.CallScrub, api.CallPaths})
	case 6:
		c.Kind = api.CallSend
	case 7:
		c.Kind = api.CallTake
	}
	if (c.Kind == api.CallSend || c.Kind == api.CallTake) && x.below(2) == 0 {
		c.From = ""
	}
	if len(x.streams) > 0 && x.below(20) > 0 {
		c.Text = one(&x.choices, x.streams)
	}
	return c
}
