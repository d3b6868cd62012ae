package item_test

import (
	"slices"
	"strconv"
	"strings"
	"testing"

	"cambium/api"
	"cambium/item"
)

var (
	longKey = strings.Repeat("k", api.MaxKey)
	longVal = strings.Repeat("v", api.MaxVal)
)

// items has an item for each pair of a key and what is kept by it.
func items(pairs ...string) []api.Item {
	var l []api.Item
	for i := 0; i < len(pairs); i += 2 {
		l = append(l, api.Item{Key: pairs[i], Val: pairs[i+1]})
	}
	return l
}

func put(key, val string) api.Change { return api.Change{Key: key, Has: true, Val: val} }

func drop(key string) api.Change { return api.Change{Key: key} }

func rightLists() [][]api.Item {
	return [][]api.Item{
		nil,
		{},
		items("a", ""),
		items("\x00", "", "\x00\x00", "", "\x01", "\x00"),
		items("a", "1", "aa", "1", "b", ""),
		items(longKey, longVal),
		items("B", "", "a", "", "\x80", "", "\xff", "", "\xff\xff", ""),
	}
}

func wrongLists() [][]api.Item {
	return [][]api.Item{
		items("", ""),
		items("", "1", "a", "1"),
		items(longKey+"k", ""),
		items("a", longVal+"v"),
		items("a", "1", "a", "1"),
		items("a", "1", "a", "2"),
		items("b", "", "a", ""),
		items("aa", "", "a", ""),
		items("a", "", "c", "", "b", ""),
		items("\x80", "", "a", ""),
		items("a", "", "b", "", longKey+"k", ""),
	}
}

func rightChanges() [][]api.Change {
	return [][]api.Change{
		nil,
		{},
		{put("a", "")},
		{drop("a")},
		{put("b", "1"), put("a", "2"), put("b", "1"), drop("b"), drop("b")},
		{put(longKey, longVal), drop(longKey)},
	}
}

func wrongChanges() [][]api.Change {
	return [][]api.Change{
		{put("", "")},
		{drop("")},
		{put(longKey+"k", "")},
		{drop(longKey + "k")},
		{put("a", longVal+"v")},
		{{Key: "a", Val: "1"}},
		{{Key: "a", Val: longVal + "v"}},
		{put("a", "1"), put("", "1")},
		{put("a", "1"), {Key: "a", Val: "1"}, put("a", "1")},
	}
}

// 4.1: what a right list is.
func TestCheck(t *testing.T) {
	for i, l := range rightLists() {
		if why := item.Check(l); why != api.OK {
			t.Errorf("right list %d: error %d", i, why)
		}
	}
	for i, l := range wrongLists() {
		if why := item.Check(l); why != api.ErrForm {
			t.Errorf("wrong list %d: error %d", i, why)
		}
	}
}

// 4.1: a list that is not right is an error in all calls, and they answer nothing beside it.
func TestWrongLists(t *testing.T) {
	right := items("a", "1")
	for i, l := range wrongLists() {
		for _, key := range []string{"", "a", "zz"} {
			if val, why := item.Get(l, key); val != "" || why != api.ErrForm {
				t.Errorf("Get of %d: %q, error %d", i, val, why)
			}
			if got, why := item.Under(l, key); len(got) != 0 || why != api.ErrForm {
				t.Errorf("Under of %d: %v, error %d", i, got, why)
			}
		}
		if got, why := item.Apply(l, []api.Change{put("a", "1")}); len(got) != 0 || why != api.ErrForm {
			t.Errorf("Apply to %d: %v, error %d", i, got, why)
		}
		if got, why := item.Apply(l, nil); len(got) != 0 || why != api.ErrForm {
			t.Errorf("Apply of nothing to %d: %v, error %d", i, got, why)
		}
		for _, two := range [][2][]api.Item{{l, right}, {right, l}, {l, l}, {nil, l}, {l, nil}} {
			if got, why := item.Diff(two[0], two[1]); len(got) != 0 || why != api.ErrForm {
				t.Errorf("Diff of %d: %v, error %d", i, got, why)
			}
		}
	}
}

// 4.1: what is kept by a key, if it is there.
func TestGet(t *testing.T) {
	l := items("\x00", "zero", "a", "1", "aa", "", "b", longVal, longKey, "3", "\xff", "4")
	for _, x := range l {
		if val, why := item.Get(l, x.Key); val != x.Val || why != api.OK {
			t.Errorf("Get %q: %q, error %d", x.Key, val, why)
		}
	}
	for _, key := range []string{"", "\x00\x00", "A", "a\x00", "aaa", "c", longKey[1:], longKey + "k", "\xfe", "\xff\xff"} {
		if val, why := item.Get(l, key); val != "" || why != api.ErrNone {
			t.Errorf("Get %q: %q, error %d", key, val, why)
		}
	}
	if val, why := item.Get(nil, "a"); val != "" || why != api.ErrNone {
		t.Errorf("Get of nothing: %q, error %d", val, why)
	}
}

// 4.1: the items whose keys begin with a text, in their order.
func TestUnder(t *testing.T) {
	l := items("a", "1", "aa", "2", "aab", "3", "ab", "4", "b", "5", "\xff", "6", "\xff\xff", "7")
	for _, x := range []struct {
		prefix     string
		first, end int
	}{
		{"", 0, 7},
		{"a", 0, 4},
		{"aa", 1, 3},
		{"aab", 2, 3},
		{"aaba", 0, 0},
		{"ab", 3, 4},
		{"b", 4, 5},
		{"c", 0, 0},
		{"A", 0, 0},
		{"\xff", 5, 7},
		{"\xff\xff", 6, 7},
		{"\xff\xff\xff", 0, 0},
		{longKey + longKey, 0, 0},
	} {
		if got, why := item.Under(l, x.prefix); !slices.Equal(got, l[x.first:x.end]) || why != api.OK {
			t.Errorf("Under %q: %v, error %d", x.prefix, got, why)
		}
	}
	if got, why := item.Under(nil, ""); len(got) != 0 || why != api.OK {
		t.Errorf("Under of nothing: %v, error %d", got, why)
	}
}

// 4.2: changes are done one behind the other.
func TestApply(t *testing.T) {
	l := items("b", "1", "d", "2", "f", "3")
	for i, x := range []struct {
		l       []api.Item
		changes []api.Change
		want    []api.Item
	}{
		{l, nil, l},
		{nil, nil, nil},
		{nil, []api.Change{drop("a")}, nil},
		{nil, []api.Change{put("b", "2"), put("a", "1")}, items("a", "1", "b", "2")},
		{l, []api.Change{put("a", "x")}, items("a", "x", "b", "1", "d", "2", "f", "3")},
		{l, []api.Change{put("e", "")}, items("b", "1", "d", "2", "e", "", "f", "3")},
		{l, []api.Change{put("g", "x")}, items("b", "1", "d", "2", "f", "3", "g", "x")},
		{l, []api.Change{put("d", "x")}, items("b", "1", "d", "x", "f", "3")},
		{l, []api.Change{put("d", "")}, items("b", "1", "d", "", "f", "3")},
		{l, []api.Change{drop("b")}, items("d", "2", "f", "3")},
		{l, []api.Change{drop("f"), drop("b"), drop("d")}, nil},
		{l, []api.Change{drop("a"), drop("c"), drop("g"), drop("da")}, l},
		{l, []api.Change{drop("d"), put("d", "y")}, items("b", "1", "d", "y", "f", "3")},
		{l, []api.Change{put("d", "y"), drop("d")}, items("b", "1", "f", "3")},
		{l, []api.Change{put("c", "y"), drop("c")}, l},
		{l, []api.Change{put("z", "1"), put("c", "1"), put("z", "2"), put("a", "1"), put("c", "3"), put("c", "2")},
			items("a", "1", "b", "1", "c", "2", "d", "2", "f", "3", "z", "2")},
		{l, []api.Change{put(longKey, longVal)}, items("b", "1", "d", "2", "f", "3", longKey, longVal)},
	} {
		if got, why := item.Apply(x.l, x.changes); !slices.Equal(got, x.want) || why != api.OK {
			t.Errorf("%d: Apply: %v, error %d", i, got, why)
		}
	}
}

// 4.2: what a right change is.
func TestApplyOfRightAndWrongChanges(t *testing.T) {
	for _, l := range rightLists() {
		for i, changes := range rightChanges() {
			if got, why := item.Apply(l, changes); why != api.OK || item.Check(got) != api.OK {
				t.Errorf("right changes %d: %v, error %d", i, got, why)
			}
		}
		for i, changes := range wrongChanges() {
			if got, why := item.Apply(l, changes); len(got) != 0 || why != api.ErrForm {
				t.Errorf("wrong changes %d: %v, error %d", i, got, why)
			}
		}
	}
}

// 4.2: the changes that make the second list of the first one, rising by key.
func TestDiff(t *testing.T) {
	l := items("b", "1", "d", "2")
	for i, x := range []struct {
		a, b []api.Item
		want []api.Change
	}{
		{nil, nil, nil},
		{l, l, nil},
		{nil, l, []api.Change{put("b", "1"), put("d", "2")}},
		{l, nil, []api.Change{drop("b"), drop("d")}},
		{l, items("b", "1", "d", "3"), []api.Change{put("d", "3")}},
		{l, items("b", "", "d", "2"), []api.Change{put("b", "")}},
		{l, items("d", "2"), []api.Change{drop("b")}},
		{l, items("b", "1"), []api.Change{drop("d")}},
		{l, items("a", "1", "b", "1", "c", "1", "d", "2", "e", "1"), []api.Change{put("a", "1"), put("c", "1"), put("e", "1")}},
		{l, items("a", "0", "d", "9", "e", ""), []api.Change{put("a", "0"), drop("b"), put("d", "9"), put("e", "")}},
		{items("a", "1", "b", "2"), items("b", "3", "c", "4"), []api.Change{drop("a"), put("b", "3"), put("c", "4")}},
		{items("a", "1"), items("a\x00", "1"), []api.Change{drop("a"), put("a\x00", "1")}},
	} {
		if got, why := item.Diff(x.a, x.b); !slices.Equal(got, x.want) || why != api.OK {
			t.Errorf("%d: Diff: %v, error %d", i, got, why)
		}
	}
}

// someLists has every list of some keys, each away or with one of two texts.
func someLists() [][]api.Item {
	lists := [][]api.Item{nil}
	for _, key := range []string{"a", "aa", "b", "\xff"} {
		for _, l := range lists {
			for _, val := range []string{"", "x"} {
				lists = append(lists, append(slices.Clone(l), api.Item{Key: key, Val: val}))
			}
		}
	}
	return lists
}

// 4.4: the difference of two, done to the one, is the other; of two that are one there is none.
func TestThereAndBack(t *testing.T) {
	lists := someLists()
	for i, a := range lists {
		for j, b := range lists {
			changes, why := item.Diff(a, b)
			if why != api.OK || (len(changes) == 0) != (i == j) {
				t.Fatalf("Diff of %v and %v: %v, error %d", a, b, changes, why)
			}
			if !slices.IsSortedFunc(changes, func(x, y api.Change) int { return strings.Compare(x.Key, y.Key) }) {
				t.Errorf("Diff of %v and %v: %v", a, b, changes)
			}
			if got, why := item.Apply(a, changes); !slices.Equal(got, b) || why != api.OK {
				t.Errorf("Apply of %v to %v: %v, error %d", changes, a, got, why)
			}
		}
	}
}

// 4.5: many changes of a few keys leave what a table has behind them.
func TestLast(t *testing.T) {
	x := uint32(7)
	var l []api.Item
	want := map[string]string{}
	for round := range 20 {
		var changes []api.Change
		for i := range 100 {
			x = x*1664525 + 1013904223
			key := strconv.Itoa(int(x >> 27))
			if x>>24&7 < 3 {
				changes = append(changes, drop(key))
				delete(want, key)
				continue
			}
			changes = append(changes, put(key, strconv.Itoa(i)))
			want[key] = strconv.Itoa(i)
		}
		var why api.Errno
		if l, why = item.Apply(l, changes); why != api.OK || item.Check(l) != api.OK || len(l) != len(want) {
			t.Fatalf("round %d: Apply: %v, error %d", round, l, why)
		}
		for key := range 32 {
			val, why := item.Get(l, strconv.Itoa(key))
			if now, there := want[strconv.Itoa(key)]; val != now || (why == api.OK) != there {
				t.Errorf("round %d: Get %d: %q, error %d", round, key, val, why)
			}
		}
	}
}

// 4.3: what is handed in stays as it is, and so does what was answered when it is changed.
func TestNewMemory(t *testing.T) {
	l := slices.Grow(items("a", "1", "ab", "2", "c", "3"), 8)
	changes := []api.Change{put("d", "4"), put("b", "5"), drop("c")}
	under, _ := item.Under(l, "a")
	all, _ := item.Under(l, "")
	applied, _ := item.Apply(l, changes)
	same, _ := item.Apply(l, nil)
	item.Diff(l, items("b", "1"))
	if !slices.Equal(l, items("a", "1", "ab", "2", "c", "3")) || l[:cap(l)][3] != (api.Item{}) {
		t.Errorf("the list was changed: %v", l[:cap(l)])
	}
	if !slices.Equal(changes, []api.Change{put("d", "4"), put("b", "5"), drop("c")}) {
		t.Errorf("the changes were changed: %v", changes)
	}
	for i := range l {
		l[i] = api.Item{Key: "overwritten"}
	}
	_ = append(under, api.Item{Key: "overwritten"})
	for i, x := range []struct{ got, want []api.Item }{
		{under, items("a", "1", "ab", "2")},
		{all, items("a", "1", "ab", "2", "c", "3")},
		{applied, items("a", "1", "ab", "2", "b", "5", "d", "4")},
		{same, items("a", "1", "ab", "2", "c", "3")},
	} {
		if !slices.Equal(x.got, x.want) {
			t.Errorf("answer %d changed with the list: %v", i, x.got)
		}
	}
}
