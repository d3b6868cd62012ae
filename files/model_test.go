package files_test

import (
	"maps"
	"slices"
	"strings"

	"cambium/api"
)

// choices are numbers in a mixed order.
type choices uint32

func (x *choices) below(n int) int {
	*x = *x*1664525 + 1013904223
	return int(*x>>8) % n
}

// bytes are n, zero bytes often among them, and often at the end.
func (x *choices) bytes(n int) string {
	b := make([]byte, n)
	few := x.below(4)
	for i := range b {
		if x.below(4) > few {
			b[i] = byte(x.below(256))
		}
	}
	if x.below(2) == 0 {
		clear(b[x.below(n+1):])
	}
	return string(b)
}

// thing is an inode as one would have it at hand: a file's bytes as a whole, a directory's entries, and attributes.
type thing struct {
	kind    api.FileKind
	mode    uint16
	links   int
	bytes   string
	target  string
	entries map[string]uint32
	attrs   map[string]string
}

// model is a volume of such things.
type model map[uint32]*thing

func newThing(kind api.FileKind, mode uint16) *thing {
	return &thing{kind: kind, mode: mode, links: 1, entries: map[string]uint32{}, attrs: map[string]string{}}
}

func newModel() model {
	return model{api.Root: newThing(api.FileDir, 0)}
}

// inode is what is told of a thing.
func (x *thing) inode() api.Inode {
	return api.Inode{Kind: x.kind, Mode: x.mode, Links: uint32(x.links), Size: uint32(len(x.bytes) + len(x.target)), Target: x.target}
}

// items are those of the model as a volume keeps it.
func (m model) items() []api.Item {
	var l []api.Item
	for ino, x := range m {
		l = append(l, node(ino, x.inode()))
		for name, below := range x.entries {
			l = append(l, entry(ino, name, below))
		}
		for name, val := range x.attrs {
			l = append(l, attr(ino, name, val))
		}
		for from := 0; from < len(x.bytes); from += 128 {
			if val := strings.TrimRight(x.bytes[from:min(from+128, len(x.bytes))], "\x00"); val != "" {
				l = append(l, chunk(ino, uint32(from/128), val))
			}
		}
	}
	return volume(l...)
}

func (m model) copied() model {
	out := model{}
	for ino, x := range m {
		y := *x
		y.entries, y.attrs = maps.Clone(x.entries), maps.Clone(x.attrs)
		out[ino] = &y
	}
	return out
}

func isName(s string) bool {
	return s != "" && len(s) <= 24 && s != "." && s != ".." && !strings.ContainsAny(s, "/\x00")
}

func namesOf(p string) ([]string, api.Errno) {
	if len(p) > 256 {
		return nil, api.ErrLong
	}
	if p == "/" {
		return nil, api.OK
	}
	names := strings.Split(p, "/")
	if names[0] != "" || len(names) == 1 {
		return nil, api.ErrName
	}
	for _, s := range names[1:] {
		if !isName(s) {
			return nil, api.ErrName
		}
	}
	return names[1:], api.OK
}

// walk goes along names, one at a time; links is how many more may be gone along.
func (m model) walk(names []string, follow bool, links int) (uint32, api.Errno) {
	at := uint32(api.Root)
	for i, name := range names {
		if m[at].kind != api.FileDir {
			return 0, api.ErrFile
		}
		below, there := m[at].entries[name]
		if !there {
			return 0, api.ErrNone
		}
		if m[below].kind == api.FileLink && (follow || i < len(names)-1) {
			if links == 0 {
				return 0, api.ErrLoop
			}
			ahead, why := namesOf(m[below].target)
			if why != api.OK {
				return 0, why
			}
			return m.walk(slices.Concat(ahead, names[i+1:]), follow, links-1)
		}
		at = below
	}
	return at, api.OK
}

func (m model) led(p string, follow bool) (uint32, api.Errno) {
	names, why := namesOf(p)
	if why != api.OK {
		return 0, why
	}
	return m.walk(names, follow, 8)
}

// place is the directory of a path's last name, that name, and what it names: 0, if nothing.
func (m model) place(p string) (uint32, string, uint32, api.Errno) {
	names, why := namesOf(p)
	if why == api.OK && len(names) == 0 {
		why = api.ErrName
	}
	if why != api.OK {
		return 0, "", 0, why
	}
	dir, why := m.walk(names[:len(names)-1], true, 8)
	if why == api.OK && m[dir].kind != api.FileDir {
		why = api.ErrFile
	}
	if why != api.OK {
		return 0, "", 0, why
	}
	name := names[len(names)-1]
	return dir, name, m[dir].entries[name], api.OK
}

// below tells if an inode is another one, or in it, or further below.
func (m model) below(ino, top uint32) bool {
	if ino == top {
		return true
	}
	for _, x := range m[top].entries {
		if m.below(ino, x) {
			return true
		}
	}
	return false
}

func (m model) letGo(dir uint32, name string) {
	ino := m[dir].entries[name]
	delete(m[dir].entries, name)
	m[ino].links--
	if m[ino].links == 0 {
		delete(m, ino)
	}
}

// do does something in the model, which is spoilt if that is an error.
func (m model) do(op api.Op) (api.Told, api.Errno) {
	switch op.Kind {
	case api.OpMake, api.OpMkdir, api.OpLink:
		return api.Told{}, m.make(op)
	case api.OpHard:
		return api.Told{}, m.hard(op)
	case api.OpRename:
		return api.Told{}, m.rename(op)
	case api.OpUnlink, api.OpRmdir:
		return api.Told{}, m.remove(op)
	case api.OpNone:
		return api.Told{}, api.ErrForm
	}
	if op.Kind >= api.OpCount {
		return api.Told{}, api.ErrForm
	}
	ino, why := m.led(op.Path, op.Kind != api.OpStat || op.N == 0)
	if why != api.OK {
		return api.Told{}, why
	}
	switch op.Kind {
	case api.OpStat:
		return api.Told{Ino: ino, Inode: m[ino].inode()}, api.OK
	case api.OpList:
		return m.list(ino)
	case api.OpMode:
		m[ino].mode = op.Mode
		return api.Told{}, api.OK
	case api.OpSetAttr, api.OpGetAttr, api.OpDropAttr:
		return m.attr(m[ino], op)
	}
	return m.bytes(m[ino], op)
}

func (m model) make(op api.Op) api.Errno {
	dir, name, ino, why := m.place(op.Path)
	if why != api.OK {
		return why
	}
	if ino != 0 {
		return api.ErrTwice
	}
	x := newThing(map[api.OpKind]api.FileKind{api.OpMake: api.FileData, api.OpMkdir: api.FileDir, api.OpLink: api.FileLink}[op.Kind], op.Mode)
	if op.Kind == api.OpLink {
		x.target = op.To
		if op.To == "" || len(op.To) > 64 || strings.Contains(op.To, "\x00") {
			return api.ErrForm
		}
	}
	for ino = 2; m[ino] != nil; ino++ {
	}
	m[ino] = x
	m[dir].entries[name] = ino
	return api.OK
}

func (m model) hard(op api.Op) api.Errno {
	ino, why := m.led(op.Path, false)
	if why != api.OK {
		return why
	}
	if m[ino].kind == api.FileDir {
		return api.ErrDir
	}
	if m[ino].links >= 1024 {
		return api.ErrRange
	}
	dir, name, there, why := m.place(op.To)
	if why != api.OK {
		return why
	}
	if there != 0 {
		return api.ErrTwice
	}
	m[ino].links++
	m[dir].entries[name] = ino
	return api.OK
}

func (m model) rename(op api.Op) api.Errno {
	dir, name, ino, why := m.place(op.Path)
	if why == api.OK && ino == 0 {
		why = api.ErrNone
	}
	if why != api.OK {
		return why
	}
	toDir, toName, was, why := m.place(op.To)
	switch {
	case why != api.OK:
		return why
	case m.below(toDir, ino):
		return api.ErrState
	case was == ino:
		return api.OK
	}
	if was != 0 {
		isDir, wasDir := m[ino].kind == api.FileDir, m[was].kind == api.FileDir
		switch {
		case isDir && !wasDir:
			return api.ErrFile
		case wasDir && !isDir:
			return api.ErrDir
		case wasDir && len(m[was].entries) > 0:
			return api.ErrBusy
		}
		m.letGo(toDir, toName)
	}
	m[toDir].entries[toName] = ino
	delete(m[dir].entries, name)
	return api.OK
}

func (m model) remove(op api.Op) api.Errno {
	dir, name, ino, why := m.place(op.Path)
	switch {
	case why != api.OK:
		return why
	case ino == 0:
		return api.ErrNone
	case op.Kind == api.OpUnlink && m[ino].kind == api.FileDir:
		return api.ErrDir
	case op.Kind == api.OpRmdir && m[ino].kind != api.FileDir:
		return api.ErrFile
	case len(m[ino].entries) > 0:
		return api.ErrBusy
	}
	m.letGo(dir, name)
	return api.OK
}

func (m model) list(ino uint32) (api.Told, api.Errno) {
	if m[ino].kind != api.FileDir {
		return api.Told{}, api.ErrFile
	}
	var out []api.Entry
	for _, name := range slices.Sorted(maps.Keys(m[ino].entries)) {
		below := m[ino].entries[name]
		out = append(out, api.Entry{Name: name, Ino: below, Kind: m[below].kind})
	}
	return api.Told{Entries: out}, api.OK
}

func (m model) attr(x *thing, op api.Op) (api.Told, api.Errno) {
	if !isName(op.To) {
		return api.Told{}, api.ErrName
	}
	if op.Kind == api.OpSetAttr {
		if len(op.Data) > 64 {
			return api.Told{}, api.ErrLong
		}
		x.attrs[op.To] = op.Data
		return api.Told{}, api.OK
	}
	val, there := x.attrs[op.To]
	if !there {
		return api.Told{}, api.ErrNone
	}
	if op.Kind == api.OpGetAttr {
		return api.Told{Text: val}, api.OK
	}
	delete(x.attrs, op.To)
	return api.Told{}, api.OK
}

// bytes reads, writes or cuts a file.
func (m model) bytes(x *thing, op api.Op) (api.Told, api.Errno) {
	off, size := int(op.Off), len(x.bytes)
	switch {
	case x.kind == api.FileDir:
		return api.Told{}, api.ErrDir
	case op.Kind == api.OpRead:
		from := min(off, size)
		return api.Told{Text: x.bytes[from:max(min(off+int(op.N), size), from)]}, api.OK
	case op.Kind == api.OpCut && op.N > 1<<16, op.Kind == api.OpWrite && off+len(op.Data) > 1<<16:
		return api.Told{}, api.ErrRange
	case op.Kind == api.OpCut:
		x.bytes = (x.bytes + zeros(max(int(op.N)-size, 0)))[:op.N]
	case op.Data != "":
		whole := x.bytes + zeros(max(off+len(op.Data)-size, 0))
		x.bytes = whole[:off] + op.Data + whole[off+len(op.Data):]
	}
	return api.Told{}, api.OK
}
