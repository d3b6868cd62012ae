package stream_test

import (
	"crypto/sha256"
	"slices"
	"strings"
	"testing"

	"cambium/api"
	"cambium/dirs"
	"cambium/hash"
	"cambium/stream"
)

var (
	longKey = strings.Repeat("k", api.MaxKey)
	longVal = strings.Repeat("v", api.MaxVal)
)

// 18.1: the hash of each key and what is kept by it, as texts.
func TestMark(t *testing.T) {
	for _, x := range []struct {
		l     []api.Item
		bytes string
	}{
		{nil, ""},
		{[]api.Item{}, ""},
		{[]api.Item{{Key: "a"}}, "\x00\x01a\x00\x00"},
		{[]api.Item{{Key: "a", Val: "b"}}, "\x00\x01a\x00\x01b"},
		{[]api.Item{{Key: "a", Val: "\x00"}, {Key: "ab", Val: "c"}}, "\x00\x01a\x00\x01\x00\x00\x02ab\x00\x01c"},
		{[]api.Item{{Key: longKey, Val: longVal}}, "\x00\x30" + longKey + "\x00\xa0" + longVal},
	} {
		if got, why := stream.Mark(x.l); got != sha256.Sum256([]byte(x.bytes)) || why != api.OK {
			t.Errorf("Mark of %.60v: %x, error %d", x.l, got, why)
		}
	}
	if got, why := stream.Mark(nil); got != hash.Sum("") || why != api.OK {
		t.Errorf("Mark of nothing: %x, error %d", got, why)
	}
}

// 18.1: a list that is not right has no mark; one that is no volume has.
func TestMarkOfWrongLists(t *testing.T) {
	for i, l := range [][]api.Item{
		{{}},
		{{Val: "v"}},
		{{Key: "b"}, {Key: "a"}},
		{{Key: "a"}, {Key: "a"}},
		{{Key: longKey + "k"}},
		{{Key: "a", Val: longVal + "v"}},
	} {
		if got, why := stream.Mark(l); got != [32]byte{} || why != api.ErrForm {
			t.Errorf("Mark of %d: %x, error %d", i, got, why)
		}
	}
}

// 18.1: a stream's bytes.
func TestSend(t *testing.T) {
	none := sha256.Sum256(nil)
	root := "i\x00\x00\x00\x01"
	fresh := "\x01\x00\x00\x00\x00\x00\x01\x00\x00\x00\x00\x00\x00"
	want := "\x43\x53" + string(none[:]) + "\x00\x00\x00\x01" + "\x01" + "\x00\x05" + root + "\x00\x0d" + fresh
	wantBytes(t, nil, dirs.New(), summed(want))
	wantBytes(t, dirs.New(), dirs.New(), summed("CS"+string(hashOf("\x00\x05"+root+"\x00\x0d"+fresh))+"\x00\x00\x00\x00"))
	l := sample()
	wantBytes(t, l, l, streamOf(markOf(l)))
	wantBytes(t, l, sampleOther(), streamOf(markOf(l),
		put(has("c", 3, "\x00\x00\x00\x00", "").Key, "b\x00t"),
		put(entry(2, "g", 3).Key, "\x00\x00\x00\x03"),
		put(node(3, api.FileData, 2, 5).Key, node(3, api.FileData, 2, 5).Val),
		drop(attr(3, "k", "").Key)))
	var all []api.Change
	for _, x := range l {
		all = append(all, put(x.Key, x.Val))
	}
	wantBytes(t, nil, l, streamOf(none, all...))
	wantBytes(t, []api.Item{}, l, streamOf(none, all...))
}

func hashOf(s string) []byte {
	h := sha256.Sum256([]byte(s))
	return h[:]
}

// 18.1: nothing may be sent from, but not to; what is no right volume neither.
func TestSendOfWrongVolumes(t *testing.T) {
	for _, from := range [][]api.Item{nil, sample(), dirs.New()} {
		for _, to := range append(wrongVolumes(), nil, []api.Item{}) {
			if s, why := stream.Send(from, to); s != "" || why != api.ErrBad {
				t.Errorf("Send to %q: %q, error %d", to, s, why)
			}
		}
	}
	for _, from := range wrongVolumes() {
		for _, to := range append(wrongVolumes(), nil, sample(), from) {
			if s, why := stream.Send(from, to); s != "" || why != api.ErrBad {
				t.Errorf("Send from %q: %q, error %d", from, s, why)
			}
		}
	}
}

// 18.2: changes that change nothing, and such as could be fewer, are a stream's, too.
func TestReceiveChanges(t *testing.T) {
	l := sample()
	mark := markOf(l)
	wantReceived(t, l, streamOf(mark), l)
	wantReceived(t, l, streamOf(mark, drop("a"), drop("b"), drop(longKey)), l)
	wantReceived(t, l, streamOf(mark, drop("\x00"), put(l[0].Key, l[0].Val), drop("\xff")), l)
	wantReceived(t, l, streamOf(mark, drop(attr(3, "k", "").Key)), l[:len(l)-1])
	wantReceived(t, l, streamOf(mark, put(attr(3, "l", "").Key, "")), append(slices.Clone(l), attr(3, "l", "")))
	var instead []api.Change
	for _, x := range l {
		if x.Key != dirs.New()[0].Key {
			instead = append(instead, drop(x.Key))
		}
	}
	wantReceived(t, l, streamOf(mark, instead...), dirs.New())
	wantReceived(t, nil, streamOf(markOf(nil), drop("a"), put(dirs.New()[0].Key, dirs.New()[0].Val)), dirs.New())
}

// 18.2: what is no stream's bytes.
func TestWrongBytes(t *testing.T) {
	l := sample()
	mark := markOf(l)
	m := string(mark[:])
	a, b := changeBytes(drop("a")), changeBytes(put("b", "v"))
	for what, s := range map[string]string{
		"nothing":                 "",
		"a sum of nothing":        summed(""),
		"short of a sum":          "\x00\x00\x00",
		"the beginning alone":     summed("CS"),
		"half a beginning":        summed("C"),
		"a mark alone":            summed("CS" + m),
		"half a mark":             summed("CS" + m[:31]),
		"half a number":           summed("CS" + m + "\x00\x00\x00"),
		"another beginning":       summed("CT" + m + "\x00\x00\x00\x00"),
		"a small beginning":       summed("cs" + m + "\x00\x00\x00\x00"),
		"turned round":            summed("SC" + m + "\x00\x00\x00\x00"),
		"no beginning":            summed(m + "\x00\x00\x00\x00"),
		"no sum":                  "CS" + m + "\x00\x00\x00\x00",
		"another sum":             "CS" + m + "\x00\x00\x00\x00" + "\x00\x00\x00\x00",
		"a sum of the sum":        summed(streamOf(mark)),
		"one change too few":      counted(mark, 2, a),
		"one change too many":     counted(mark, 1, a+b),
		"no number, but one":      counted(mark, 0, a),
		"a zero byte behind it":   counted(mark, 1, a+"\x00"),
		"far too few":             counted(mark, 1<<32-1, a+b),
		"far too many":            counted(mark, 1<<24, strings.Repeat(a, 9)),
		"half a change":           counted(mark, 1, "\x00"),
		"half a length":           counted(mark, 1, "\x00\x00"),
		"half a key":              counted(mark, 1, "\x00\x00\x02a"),
		"no value":                counted(mark, 1, "\x01\x00\x01a"),
		"half a value":            counted(mark, 1, "\x01\x00\x01a\x00\x02v"),
		"a value of what is gone": counted(mark, 1, "\x00\x00\x01a\x00\x01v"),
		"an empty value of it":    counted(mark, 1, "\x00\x00\x01a\x00\x00"),
		"a byte of 2":             counted(mark, 1, "\x02\x00\x01a\x00\x01v"),
		"a byte of 2, no value":   counted(mark, 1, "\x02\x00\x01a"),
		"a byte of 255":           counted(mark, 1, "\xff\x00\x01a"),
		"a byte of 2 alone":       counted(mark, 1, "\x02"),
		"a byte of 2 at the end":  counted(mark, 2, a+"\x02"),
		"wrong behind right":      counted(mark, 2, a+"\x03\x00\x01b"),
		"falling":                 streamOf(mark, put("b", "v"), drop("a")),
		"falling bytes":           streamOf(mark, drop("\x80"), drop("a")),
		"twice":                   streamOf(mark, drop("a"), drop("a")),
		"twice, otherwise":        streamOf(mark, put("a", "v"), drop("a")),
		"no key":                  streamOf(mark, drop("")),
		"no key, but a value":     streamOf(mark, put("", "v")),
		"a long key":              streamOf(mark, drop(longKey+"k")),
		"a long key with a value": streamOf(mark, put(longKey+"k", "v")),
		"a long value":            streamOf(mark, put("a", longVal+"v")),
		"many bytes":              summed(strings.Repeat("CS", 1<<16)),
	} {
		wantNone(t, what, s, l)
		wantRefused(t, what+" on nothing", nil, s, api.ErrStream)
	}
	for _, s := range []string{streamOf(mark, drop("a"), put(longKey, longVal)), streamOf(mark, put(longKey, "")), streamOf(mark, drop("\x00"), drop("\x00\x00"))} {
		if base, why := stream.Base(s); base != mark || why != api.OK {
			t.Errorf("Base of %q: %x, error %d", s, base, why)
		}
	}
}

// 18.2: a stream is received on what it was sent from, and on nothing else.
func TestReceiveElsewhere(t *testing.T) {
	l, other := sample(), sampleOther()
	s, _ := stream.Send(l, other)
	fresh, _ := stream.Send(nil, other)
	wantReceived(t, l, s, other)
	wantRefused(t, "elsewhere", other, s, api.ErrStream)
	wantRefused(t, "elsewhere", dirs.New(), s, api.ErrStream)
	wantRefused(t, "on nothing", nil, s, api.ErrStream)
	wantRefused(t, "on something", l, fresh, api.ErrStream)
	wantRefused(t, "on what it makes", other, fresh, api.ErrStream)
	for i := range 32 {
		mark := markOf(l)
		mark[i] ^= 1
		wrong := streamOf(mark)
		wantRefused(t, "another mark", l, wrong, api.ErrStream)
		if base, why := stream.Base(wrong); base != mark || why != api.OK {
			t.Errorf("Base: %x, error %d, not %x", base, why, mark)
		}
	}
}

// 18.2, 18.6: what is made is a right volume, or nothing is received.
func TestReceiveOfWrongVolumes(t *testing.T) {
	l := sample()
	for i, c := range []api.Change{
		put("k", "v"), drop(dirs.New()[0].Key), drop(entry(2, "f", 3).Key), put(entry(api.Root, "g", 3).Key, "\x00\x00\x00\x03"),
		put(attr(3, "k", "").Key, strings.Repeat("v", api.MaxAttr+1)), put(attr(9, "k", "").Key, "v"), put("i\x00\x00\x00\x03", "v"),
		put(entry(api.Root, "a", 0).Key, "\x00\x00\x00\x03"), drop("i\x00\x00\x00\x02"),
	} {
		s := streamOf(markOf(l), c)
		if base, why := stream.Base(s); base != markOf(l) || why != api.OK {
			t.Errorf("Base of %d: %x, error %d", i, base, why)
		}
		wantRefused(t, "a wrong volume", l, s, api.ErrStream)
	}
	wantRefused(t, "nothing", nil, streamOf(markOf(nil)), api.ErrStream)
	wantRefused(t, "nothing of a volume", dirs.New(), streamOf(markOf(dirs.New()), drop(dirs.New()[0].Key)), api.ErrStream)
}

// 18.2: on what is no right volume, and has something, nothing is received: that is told ahead of the stream's error.
func TestReceiveOnWrongVolumes(t *testing.T) {
	for _, l := range wrongVolumes() {
		for _, s := range []string{"", "wrong", streamOf(markOf(l)), streamOf(markOf(nil), put(dirs.New()[0].Key, dirs.New()[0].Val))} {
			wantRefused(t, "on a wrong volume", l, s, api.ErrBad)
		}
	}
}

// 18.3: what is handed in stays as it is, and so does an answer.
func TestNewMemory(t *testing.T) {
	l, other := slices.Grow(sample(), 8), slices.Grow(sampleOther(), 8)
	s, _ := stream.Send(l, other)
	none, _ := stream.Send(l, l)
	got, _ := stream.Receive(l, s)
	again, _ := stream.Receive(l, s)
	unchanged, _ := stream.Receive(l, none)
	stream.Mark(l)
	if !slices.Equal(l, sample()) || !slices.Equal(other, sampleOther()) || l[:cap(l)][len(l)] != (api.Item{}) {
		t.Errorf("what was handed in was changed")
	}
	for i := range l {
		l[i] = api.Item{Key: "overwritten"}
	}
	for i := range again {
		again[i] = api.Item{Key: "overwritten"}
	}
	if !slices.Equal(got, sampleOther()) || !slices.Equal(unchanged, sample()) {
		t.Errorf("an answer changed: %q, %q", got, unchanged)
	}
}
