package stream_test

import (
	"slices"
	"testing"

	"cambium/api"
	"cambium/dirs"
	"cambium/item"
	"cambium/stream"
)

// 18.4, 18.6: what is sent is received as it was, each of many volumes from each.
func TestReceivedAsItWas(t *testing.T) {
	x := choices(1)
	volumes := [][]api.Item{nil, dirs.New()}
	for range 20 {
		volumes = append(volumes, x.done(t, volumes[1+x.below(len(volumes)-1)], 1+x.below(30)))
	}
	for _, from := range volumes {
		for _, to := range volumes[1:] {
			changes, _ := item.Diff(from, to)
			wantBytes(t, from, to, streamOf(markOf(from), changes...))
			s, _ := stream.Send(from, to)
			for _, on := range volumes {
				got, why := stream.Receive(on, s)
				if right := slices.Equal(on, from); right != (why == api.OK) || !right && (why != api.ErrStream || got != nil) {
					t.Errorf("Receive elsewhere: %d items, error %d", len(got), why)
				}
			}
		}
	}
}

// 18.5: with one bit turned, cut short, or with something behind it, a stream is none.
func TestTurned(t *testing.T) {
	l := sample()
	for _, s := range []string{streamOf(markOf(l)), sentOf(l, sampleOther()), sentOf(nil, l)} {
		on := l
		if base, _ := stream.Base(s); base == markOf(nil) {
			on = nil
		}
		for i := range len(s) {
			for bit := range 8 {
				b := []byte(s)
				b[i] ^= 1 << bit
				wantNone(t, "turned", string(b), on)
			}
			wantNone(t, "cut short", s[:i], on)
			wantNone(t, "cut off", s[i+1:], on)
		}
		wantNone(t, "and more", s+"\x00", on)
		wantNone(t, "twice", s+s, on)
	}
}

func sentOf(from, to []api.Item) string {
	s, _ := stream.Send(from, to)
	return s
}

// 18.5: cut short it is none, even if a sum that is right stands behind what is left.
func TestCutShortAndSummed(t *testing.T) {
	s := sentOf(sample(), sampleOther())
	body := s[:len(s)-4]
	for i := range len(body) {
		wantNone(t, "cut short", summed(body[:i]), sample())
	}
}

// 18.2, 18.6: any changes are received, if they make a right volume, and refused, if not.
func TestAnyChanges(t *testing.T) {
	x := choices(2)
	count := map[api.Errno]int{}
	for range 4000 {
		l := x.done(t, dirs.New(), x.below(8))
		to := x.done(t, l, x.below(8))
		changes, _ := item.Diff(l, to)
		for range x.below(3) {
			changes = x.otherwise(changes)
		}
		want, wrong := item.Apply(l, changes)
		wantWhy := api.Errno(api.OK)
		if wrong != api.OK || !rising(changes) || dirs.Check(want) != api.OK {
			want, wantWhy = nil, api.ErrStream
		}
		s := streamOf(markOf(l), changes...)
		if got, why := stream.Receive(l, s); !slices.Equal(got, want) || why != wantWhy {
			t.Fatalf("Receive of %v: %q, error %d, not %q, %d", changes, got, why, want, wantWhy)
		}
		if _, why := stream.Base(s); (why == api.OK) != (wrong == api.OK && rising(changes)) {
			t.Fatalf("Base of %v: error %d", changes, why)
		}
		count[wantWhy]++
	}
	if count[api.OK] < 500 || count[api.ErrStream] < 500 {
		t.Errorf("too few of one kind: %v", count)
	}
}

func rising(changes []api.Change) bool {
	for i := range changes {
		if i > 0 && changes[i-1].Key >= changes[i].Key {
			return false
		}
	}
	return true
}

// otherwise is changes of which one is left out, done twice, turned or made anew.
func (x *choices) otherwise(changes []api.Change) []api.Change {
	l := slices.Clone(changes)
	if len(l) == 0 {
		return append(l, put(attr(uint32(x.below(4)), "k", "").Key, "v"))
	}
	at := x.below(len(l))
	switch x.below(5) {
	case 0:
		return slices.Delete(l, at, at+1)
	case 1:
		return slices.Insert(l, at, one(x, l))
	case 2:
		l[at] = drop(l[at].Key)
	case 3:
		l[at].Key = l[at].Key[:x.below(len(l[at].Key)+1)]
	case 4:
		return append(l, put(attr(uint32(x.below(4)), "\xff", "").Key, string(make([]byte, x.below(200)))))
	}
	return l
}
