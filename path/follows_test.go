package path_test

import (
	"slices"
	"strings"
	"testing"

	"cambium/api"
	"cambium/path"
)

// choices are numbers in a mixed order.
type choices uint32

func (x *choices) below(n int) int {
	*x = *x*1664525 + 1013904223
	return int(*x>>8) % n
}

// text is of n of few letters, so that slashes and dots often stand beside one another.
func (x *choices) text(n int) string {
	b := make([]byte, n)
	for i := range b {
		b[i] = "/.a\x00b\xff/c"[x.below(8)]
	}
	return string(b)
}

// namesOf takes a path apart as the words say it, byte by byte.
func namesOf(p string) ([]string, api.Errno) {
	if len(p) > api.MaxPath {
		return nil, api.ErrLong
	}
	if p == "/" {
		return nil, api.OK
	}
	var names []string
	for i := range len(p) {
		if p[i] == '/' {
			names = append(names, "")
			continue
		}
		if len(names) == 0 {
			return nil, api.ErrName
		}
		names[len(names)-1] += p[i : i+1]
	}
	for _, s := range names {
		if !isName(s) {
			return nil, api.ErrName
		}
	}
	if len(names) == 0 {
		return nil, api.ErrName
	}
	return names, api.OK
}

func isName(s string) bool {
	for i := range len(s) {
		if s[i] == '/' || s[i] == 0 {
			return false
		}
	}
	return len(s) >= 1 && len(s) <= api.MaxName && s != "." && s != ".."
}

// allTexts has all texts of at most n of the letters that matter.
func allTexts(n int) []string {
	l := []string{""}
	from := 0
	for range n {
		end := len(l)
		for _, s := range l[from:end] {
			for _, c := range []string{"/", ".", "a", "\x00"} {
				l = append(l, s+c)
			}
		}
		from = end
	}
	return l
}

// 11.1: all short texts, and many longer ones, are taken apart as the words say.
func TestSplitAsTheWordsSay(t *testing.T) {
	texts := allTexts(7)
	x := choices(1)
	for range 20000 {
		texts = append(texts, x.text(x.below(40)), "/"+x.text(x.below(12)))
	}
	for range 200 {
		texts = append(texts, x.text(api.MaxPath-2+x.below(5)))
	}
	right := 0
	for _, p := range texts {
		want, wantWhy := namesOf(p)
		if names, why := path.Split(p); !slices.Equal(names, want) || why != wantWhy {
			t.Fatalf("Split(%q): %q, error %d", p, names, why)
		}
		if path.Name(p) != isName(p) {
			t.Fatalf("Name(%q): %v", p, path.Name(p))
		}
		if wantWhy == api.OK {
			right++
		}
	}
	if right < 1000 {
		t.Errorf("only %d of the texts are paths", right)
	}
}

// 11.4: Join of what Split has of a path is the path.
func TestPathsThereAndBack(t *testing.T) {
	for _, p := range allTexts(7) {
		names, why := path.Split(p)
		if why != api.OK {
			continue
		}
		if again, why := path.Join(names...); again != p || why != api.OK {
			t.Fatalf("Join(%q) of Split(%q): %q, error %d", names, p, again, why)
		}
	}
}

// 11.4: Split of what Join makes of names has the names; so has Last, and those ahead are above them.
func TestNamesThereAndBack(t *testing.T) {
	x := choices(2)
	some := rightNames()
	right := 0
	for range 5000 {
		var names []string
		for range x.below(12) {
			names = append(names, some[x.below(len(some))])
		}
		p, why := path.Join(names...)
		if why != api.OK {
			if why != api.ErrLong || 1+len(strings.Join(names, "/")) <= api.MaxPath {
				t.Fatalf("Join(%q): error %d", names, why)
			}
			continue
		}
		right++
		if again, why := path.Split(p); !slices.Equal(again, names) || why != api.OK {
			t.Fatalf("Split(%q) of Join(%q): %q, error %d", p, names, again, why)
		}
		ahead, last, why := path.Last(p)
		if len(names) == 0 {
			continue
		}
		if !slices.Equal(append(slices.Clone(ahead), last), names) || why != api.OK {
			t.Fatalf("Last(%q): %q, %q, error %d", p, ahead, last, why)
		}
		if !path.Under(ahead, names) || path.Under(names, ahead) {
			t.Fatalf("Last(%q): %q are not above it", p, ahead)
		}
	}
	if right < 1000 {
		t.Errorf("only %d of the paths are not too long", right)
	}
}

// 11.2: Under is told as the words say it.
func TestUnderAsTheWordsSay(t *testing.T) {
	x := choices(3)
	some := func() []string {
		var l []string
		for range x.below(5) {
			l = append(l, []string{"", "a", "b"}[x.below(3)])
		}
		return l
	}
	for range 5000 {
		a, b := some(), some()
		want := len(a) <= len(b)
		for i := 0; want && i < len(a); i++ {
			want = a[i] == b[i]
		}
		if path.Under(a, b) != want {
			t.Fatalf("Under(%q, %q): %v", a, b, !want)
		}
	}
}

// 11.3: what is answered is written to, and appended to, and nothing else is otherwise.
func TestNewMemory(t *testing.T) {
	first, _ := path.Split("/a/b")
	second, _ := path.Split("/a/b")
	ahead, last, _ := path.Last("/a/b/c")
	aheadAgain, _, _ := path.Last("/a/b/c")
	for _, l := range [][]string{first, ahead} {
		for i := range l {
			l[i] = "x"
		}
		_ = append(l, "y")
	}
	if !slices.Equal(second, []string{"a", "b"}) || !slices.Equal(aheadAgain, []string{"a", "b"}) || last != "c" {
		t.Errorf("answers share memory: %q, %q, %q", second, aheadAgain, last)
	}
	if again, _ := path.Split("/a/b"); !slices.Equal(again, []string{"a", "b"}) {
		t.Errorf("Split is otherwise: %q", again)
	}
}

// 11.3: there is no room behind the names ahead of the last one: what is appended to them goes elsewhere.
func TestNoRoomBehind(t *testing.T) {
	for _, p := range []string{"/a", "/a/b", "/a/b/c", "/a/b/c/d/e/f/g"} {
		if ahead, _, _ := path.Last(p); cap(ahead) != len(ahead) {
			t.Errorf("Last(%q): %d names, and room for %d", p, len(ahead), cap(ahead))
		}
	}
}

// 11.3: what is handed in is not changed, nor written to where it has room, and not kept.
func TestHandedIn(t *testing.T) {
	room := []string{"a", "b", "c", "d"}
	want := slices.Clone(room)
	p, _ := path.Join(room[:2]...)
	path.Under(room[:1], room[:2])
	path.Under(room[:2], room[:1])
	if !slices.Equal(room, want) {
		t.Errorf("what was handed in is otherwise: %q", room)
	}
	room[0], room[1] = "x", "y"
	if p != "/a/b" {
		t.Errorf("what was answered is otherwise: %q", p)
	}
	if again, _ := path.Join("a", "b"); again != "/a/b" {
		t.Errorf("Join is otherwise: %q", again)
	}
}
