package path_test

import (
	"slices"
	"strings"
	"testing"

	"cambium/api"
	"cambium/path"
)

var longName = strings.Repeat("n", api.MaxName)

func rightNames() []string {
	return []string{
		"a", "ab", "A", "7", " ", "\n", "\x01", "\x7f", "\x80", "\xff", "\xff\xfe\xfd", "é", "世界", "�",
		"...", "....", ".a", "a.", "a.b", "..a", "a..", ". ", " .", ".\x01",
		"\\", "-", "*", "~", longName, longName[1:], strings.Repeat("\xff", api.MaxName), strings.Repeat(".", api.MaxName),
	}
}

func wrongNames() []string {
	return []string{
		"", ".", "..", "/", "//", "/a", "a/", "a/b", "/.", "../", "\x00", "\x00a", "a\x00", "a\x00b", "\x00\x00",
		longName + "n", longName + longName, strings.Repeat("世", api.MaxName/3) + "a", strings.Repeat(".", api.MaxName+1),
		longName[1:] + "/", "/" + longName[1:], longName[1:] + "\x00", "\x00" + longName[1:],
		strings.Repeat("n", 1<<20),
	}
}

// fullPath is a path of as many bytes as one has at most, with its names.
func fullPath() (string, []string) {
	names := slices.Repeat([]string{longName}, api.MaxPath/(1+api.MaxName))
	names = append(names, strings.Repeat("m", api.MaxPath%(1+api.MaxName)-1))
	return "/" + strings.Join(names, "/"), names
}

// deepPath is a path of as many names as one has at most.
func deepPath() (string, []string) {
	return strings.Repeat("/d", api.MaxPath/2), slices.Repeat([]string{"d"}, api.MaxPath/2)
}

type example struct {
	p     string
	names []string
}

func examples() []example {
	full, fullNames := fullPath()
	deep, deepNames := deepPath()
	return []example{
		{"/", nil},
		{"/a", []string{"a"}},
		{"/a/b", []string{"a", "b"}},
		{"/b/a", []string{"b", "a"}},
		{"/a/a/a", []string{"a", "a", "a"}},
		{"/abc/de/f", []string{"abc", "de", "f"}},
		{"/.../.a/b.", []string{"...", ".a", "b."}},
		{"/ /\xff/\x01\x80", []string{" ", "\xff", "\x01\x80"}},
		{"/世/界", []string{"世", "界"}},
		{"/a\\b", []string{"a\\b"}},
		{full, fullNames},
		{deep, deepNames},
	}
}

func wrongPaths() []string {
	return []string{
		"", "a", "a/", "a/b", "ab/c/d", " /a", "\\a", ".", "..", "./a", "\x00",
		"//", "///", "//a", "/a/", "/a//", "/a//b", "/a/b/", "/a/b//c", "//a/b",
		"/.", "/..", "/./a", "/../a", "/a/.", "/a/..", "/a/./b", "/a/../b",
		"/\x00", "/a\x00", "/\x00a", "/a/\x00/b", "/a/b\x00",
		"/" + longName + "n", "/a/" + longName + "n", "/" + longName + "n/a", "/a/" + longName + "n/b",
		strings.Repeat("/", api.MaxPath), strings.Repeat("a", api.MaxPath), "/" + strings.Repeat("a", api.MaxPath-1),
		strings.Repeat("/d", api.MaxPath/2-1) + "//", strings.Repeat("/d", api.MaxPath/2-1) + "d/",
		strings.Repeat("\x00", api.MaxPath),
	}
}

func longPaths() []string {
	full, _ := fullPath()
	deep, _ := deepPath()
	return []string{
		full + "m", full + "/", deep + "d", deep + "/d", "/" + deep,
		strings.Repeat("/", api.MaxPath+1), strings.Repeat("a", api.MaxPath+1), strings.Repeat("\x00", api.MaxPath+1),
		strings.Repeat("/a", 1<<20),
	}
}

// 11.1: what a name is.
func TestName(t *testing.T) {
	for _, s := range rightNames() {
		if !path.Name(s) {
			t.Errorf("Name(%q): it is none", s)
		}
	}
	for _, s := range wrongNames() {
		if path.Name(s) {
			t.Errorf("Name(%.30q): it is one", s)
		}
	}
}

// 11.1: of all bytes a slash, a zero byte and a dot alone are no names; a slash and a zero byte are in none.
func TestNameOfAllBytes(t *testing.T) {
	for b := range 256 {
		s := string([]byte{byte(b)})
		if want := b != 0 && b != '/' && b != '.'; path.Name(s) != want {
			t.Errorf("Name(%q): %v", s, !want)
		}
		for _, x := range []string{s + "a", "a" + s, "a" + s + "b", longName[1:] + s, s + longName[1:]} {
			if want := b != 0 && b != '/'; path.Name(x) != want {
				t.Errorf("Name(%q): %v", x, !want)
			}
		}
	}
}

// 11.1: the names of a path.
func TestSplit(t *testing.T) {
	for _, x := range examples() {
		if names, why := path.Split(x.p); !slices.Equal(names, x.names) || why != api.OK {
			t.Errorf("Split(%q): %q, error %d", x.p, names, why)
		}
	}
}

// 11.1: a text that is too long is answered so, whatever is in it; another one that is no path has no names.
func TestSplitOfWrongPaths(t *testing.T) {
	for _, p := range wrongPaths() {
		if names, why := path.Split(p); len(names) != 0 || why != api.ErrName {
			t.Errorf("Split(%q): %q, error %d", p, names, why)
		}
	}
	for _, p := range longPaths() {
		if names, why := path.Split(p); len(names) != 0 || why != api.ErrLong {
			t.Errorf("Split of %d bytes %.20q: %q, error %d", len(p), p, names, why)
		}
	}
}

// 11.1: the path of names.
func TestJoin(t *testing.T) {
	for _, x := range examples() {
		if p, why := path.Join(x.names...); p != x.p || why != api.OK {
			t.Errorf("Join(%q): %q, error %d", x.names, p, why)
		}
	}
	for _, none := range [][]string{nil, {}} {
		if p, why := path.Join(none...); p != "/" || why != api.OK {
			t.Errorf("Join of none: %q, error %d", p, why)
		}
	}
	if p, why := path.Join("a", "b", "c"); p != "/a/b/c" || why != api.OK {
		t.Errorf("Join of three: %q, error %d", p, why)
	}
}

// 11.1: what is no name is answered ahead of a path that is too long, wherever it stands.
func TestJoinOfWrongNames(t *testing.T) {
	_, fullNames := fullPath()
	for _, s := range wrongNames() {
		for _, names := range [][]string{
			{s},
			{s, "a"},
			{"a", s},
			{"a", s, "b"},
			{s, s},
			append(slices.Clone(fullNames), "a", s),
			append([]string{s}, fullNames...),
		} {
			if p, why := path.Join(names...); p != "" || why != api.ErrName {
				t.Errorf("Join(%.30q): %q, error %d", names, p, why)
			}
		}
	}
}

// 11.1: a path has at most MaxPath bytes: with one more it is too long.
func TestJoinOfTooMany(t *testing.T) {
	_, fullNames := fullPath()
	last := len(fullNames) - 1
	for _, names := range [][]string{
		append(slices.Clone(fullNames[:last]), fullNames[last]+"m"),
		append(slices.Repeat([]string{"d"}, api.MaxPath/2-1), "dd"),
	} {
		if p, why := path.Join(names...); p != "" || why != api.ErrLong {
			t.Errorf("Join(%q): %q, error %d", names, p, why)
		}
		if n := len("/" + strings.Join(names, "/")); n != api.MaxPath+1 {
			t.Errorf("%q have a path of %d bytes, and should have one more than may be", names, n)
		}
	}
	for _, names := range [][]string{
		append(slices.Clone(fullNames), "a"),
		slices.Repeat([]string{"d"}, api.MaxPath/2+1),
		slices.Repeat([]string{longName}, 1<<12),
	} {
		if p, why := path.Join(names...); p != "" || why != api.ErrLong {
			t.Errorf("Join of %d names: %.30q, error %d", len(names), p, why)
		}
	}
}

// 11.1: the names ahead of the last one, and that; a path of no names has none.
func TestLast(t *testing.T) {
	for _, x := range examples() {
		ahead, last, why := path.Last(x.p)
		n := len(x.names) - 1
		if n < 0 {
			if len(ahead) != 0 || last != "" || why != api.ErrName {
				t.Errorf("Last(%q): %q, %q, error %d", x.p, ahead, last, why)
			}
			continue
		}
		if !slices.Equal(ahead, x.names[:n]) || last != x.names[n] || why != api.OK {
			t.Errorf("Last(%q): %q, %q, error %d", x.p, ahead, last, why)
		}
	}
}

// 11.1: Last answers what is wrong with a path as Split does.
func TestLastOfWrongPaths(t *testing.T) {
	for _, p := range append(wrongPaths(), longPaths()...) {
		_, want := path.Split(p)
		if ahead, last, why := path.Last(p); len(ahead) != 0 || last != "" || why != want || why == api.OK {
			t.Errorf("Last(%.30q): %q, %q, error %d", p, ahead, last, why)
		}
	}
}

// 11.2: whether names begin with others; what they are is no matter.
func TestUnder(t *testing.T) {
	for _, x := range []struct {
		a, b []string
		want bool
	}{
		{nil, nil, true},
		{nil, []string{}, true},
		{[]string{}, nil, true},
		{nil, []string{"a"}, true},
		{[]string{"a"}, nil, false},
		{[]string{""}, nil, false},
		{nil, []string{""}, true},
		{[]string{"a"}, []string{"a"}, true},
		{[]string{"a"}, []string{"b"}, false},
		{[]string{"a"}, []string{"a", "b"}, true},
		{[]string{"b"}, []string{"a", "b"}, false},
		{[]string{"a", "b"}, []string{"a"}, false},
		{[]string{"a"}, []string{"ab"}, false},
		{[]string{"ab"}, []string{"a"}, false},
		{[]string{"a"}, []string{"ab", "c"}, false},
		{[]string{"a", "b"}, []string{"ab"}, false},
		{[]string{"a", "b"}, []string{"a", "b", "c"}, true},
		{[]string{"a", "c"}, []string{"a", "b", "c"}, false},
		{[]string{"a", "b", "c"}, []string{"a", "b", "d"}, false},
		{[]string{"x", "b", "c"}, []string{"a", "b", "c"}, false},
		{[]string{"a"}, []string{"A"}, false},
		{[]string{"/", ".."}, []string{"/", "..", ""}, true},
		{[]string{"\xff"}, []string{"\xfe"}, false},
	} {
		if got := path.Under(x.a, x.b); got != x.want {
			t.Errorf("Under(%q, %q): %v", x.a, x.b, got)
		}
	}
}
