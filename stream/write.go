package stream

import (
	"strings"

	"cambium/api"
	"cambium/pack"
)

const (
	beginning  = "\x43\x53" // of a stream
	kindWidth  = 1
	countWidth = 4
	sumWidth   = 4
)

// How a change begins.
const (
	gone  = iota // its key
	there        // its key, and what is kept by it
)

// parts are what a stream says: what it is to be received on, and what is changed.
type parts struct {
	base    [32]byte
	changes []api.Change
}

// writer puts bytes together.
type writer struct {
	strings.Builder
}

// written is a stream's bytes.
func (p parts) written() string {
	var w writer
	w.WriteString(beginning)
	w.Write(p.base[:])
	w.number(uint64(len(p.changes)), countWidth)
	for _, c := range p.changes {
		w.change(c)
	}
	w.number(uint64(pack.Sum(w.String())), sumWidth)
	return w.String()
}

func (w *writer) change(c api.Change) {
	if !c.Has {
		w.number(gone, kindWidth)
		w.text(c.Key)
		return
	}
	w.number(there, kindWidth)
	w.text(c.Key)
	w.text(c.Val)
}

// number leaves the error out: nothing that is written is too great for its width.
func (w *writer) number(n uint64, width int) {
	s, _ := pack.Number(n, width)
	w.WriteString(s)
}

// text leaves the error out: what an item has is never too long for a text.
func (w *writer) text(t string) {
	s, _ := pack.Text(t)
	w.WriteString(s)
}
