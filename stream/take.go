package stream

import (
	"strings"

	"cambium/api"
	"cambium/item"
	"cambium/pack"
)

// taker takes bytes from the beginning on; what it answers is right as long as it is not wrong.
type taker struct {
	rest  string
	wrong bool
}

// taken is what a stream's bytes say; false, if s is no stream's.
func taken(s string) (parts, bool) {
	body, ok := summed(s)
	if !ok {
		return parts{}, false
	}
	var p parts
	t := taker{rest: body}
	t.beginning()
	t.hash(&p.base)
	p.changes = t.changes()
	if t.wrong || t.rest != "" || !rightChanges(p.changes) {
		return parts{}, false
	}
	return p, true
}

// summed has the bytes ahead of their sum; false, if that is another one.
func summed(s string) (string, bool) {
	if len(s) < sumWidth {
		return "", false
	}
	body := s[:len(s)-sumWidth]
	sum, _, _ := pack.TakeNumber(s[len(body):], sumWidth)
	return body, uint32(sum) == pack.Sum(body)
}

// rightChanges tells if changes rise by key, none twice, and each is right: so it is, if the items that they tell are a right list.
func rightChanges(changes []api.Change) bool {
	var l []api.Item
	for _, c := range changes {
		l = append(l, api.Item{Key: c.Key, Val: c.Val})
	}
	return item.Check(l) == api.OK
}

func (t *taker) beginning() {
	rest, ok := strings.CutPrefix(t.rest, beginning)
	t.rest = rest
	t.wrong = t.wrong || !ok
}

func (t *taker) hash(h *[32]byte) {
	n := copy(h[:], t.rest)
	t.rest = t.rest[n:]
	t.wrong = t.wrong || n < len(h)
}

// changes takes as many as the number ahead of them says.
func (t *taker) changes() []api.Change {
	var out []api.Change
changes:
	for range t.number(countWidth) {
		var c api.Change
		switch t.number(kindWidth) {
		case there:
			c.Has = true
			fallthrough
		case gone:
			c.Key = t.text()
		default:
			t.wrong = true
			break changes
		}
		if c.Has {
			c.Val = t.text()
		}
		if t.wrong {
			break changes
		}
		out = append(out, c)
	}
	return out
}

func (t *taker) number(width int) uint64 {
	n, rest, why := pack.TakeNumber(t.rest, width)
	t.rest = rest
	t.wrong = t.wrong || why != api.OK
	return n
}

func (t *taker) text() string {
	text, rest, why := pack.TakeText(t.rest)
	t.rest = rest
	t.wrong = t.wrong || why != api.OK
	return text
}
