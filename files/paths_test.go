package files_test

import (
	"math"
	"slices"
	"strings"
	"testing"

	"cambium/api"
	"cambium/files"
)

// allKinds are the kinds of what is done.
func allKinds() []api.OpKind {
	var kinds []api.OpKind
	for kind := api.OpMake; kind < api.OpCount; kind++ {
		kinds = append(kinds, kind)
	}
	return kinds
}

// ofEntries are the kinds whose Path names something, or is to.
func ofEntries() []api.OpKind {
	return []api.OpKind{api.OpMake, api.OpMkdir, api.OpLink, api.OpRename, api.OpUnlink, api.OpRmdir}
}

// but has the kinds of one list that are not of another one.
func but(l, out []api.OpKind) []api.OpKind {
	return slices.DeleteFunc(slices.Clone(l), func(x api.OpKind) bool { return slices.Contains(out, x) })
}

// 15.1: no right volume is told first, then a kind that is none.
func TestNoRightVolume(t *testing.T) {
	for what, l := range map[string][]api.Item{
		"nothing":          nil,
		"no root":          without(sample(), node(api.Root, directory())),
		"other order":      append(sample()[1:], sample()[0]),
		"a key of no kind": with(sample(), api.Item{Key: "zz"}),
		"a lost inode":     without(sample(), entry(api.Root, "one", inOne)),
	} {
		for kind := range api.OpCount + 2 {
			for _, p := range []string{"/a", "", "/one"} {
				op := api.Op{Kind: kind, Path: p, To: "/new", Data: "a"}
				if got, told, why := files.Do(l, op); got != nil || !isNothing(told) || why != api.ErrBad {
					t.Errorf("%s: Do of %#v: %#v, %#v, error %d", what, op, got, told, why)
				}
			}
		}
	}
	for _, kind := range []api.OpKind{api.OpNone, api.OpCount, api.OpCount + 1, math.MaxUint8} {
		for _, p := range []string{"", "/", "/a", "/none/none", "/f"} {
			wantError(t, sample(), api.Op{Kind: kind, Path: p, To: p, N: 1, Data: "a"}, api.ErrForm)
		}
	}
}

// wrongPaths are paths that lead to nothing, as they or the ways along them are not right; so they are, too, with a name behind them.
func wrongPaths() map[string]api.Errno {
	return map[string]api.Errno{
		"":                                   api.ErrName,
		"a":                                  api.ErrName,
		"//":                                 api.ErrName,
		"/a/":                                api.ErrName,
		"/a//c":                              api.ErrName,
		"/a/.":                               api.ErrName,
		"/a/..":                              api.ErrName,
		"/" + letters(api.MaxName+1):         api.ErrName,
		"/a\x00":                             api.ErrName,
		strings.Repeat("/k", 128) + "k":      api.ErrLong,
		strings.Repeat("/", api.MaxPath+1):   api.ErrLong,
		"/none/none":                         api.ErrNone,
		"/a/none/none":                       api.ErrNone,
		"/" + letters(api.MaxName) + "/none": api.ErrNone,
		strings.Repeat("/k", 128):            api.ErrNone,
		"/f/none":                            api.ErrFile,
		"/a/h/none":                          api.ErrFile,
		"/f/none/none":                       api.ErrFile,
		"/lost/none":                         api.ErrNone,
		"/loop/none":                         api.ErrLoop,
		"/bad/none":                          api.ErrName,
		"/l/h/none":                          api.ErrFile,
		"/l/none/none":                       api.ErrNone,
		"/a/c/up/a/c/up/f/none":              api.ErrFile,
		strings.Repeat("/l/up", 4) + "/l/h":  api.ErrLoop,
		strings.Repeat("/l/up", 5) + "/none": api.ErrLoop,
	}
}

// 15.1: a Path that is not right is told first, of whatever kind.
func TestWrongPaths(t *testing.T) {
	for p, why := range wrongPaths() {
		for _, kind := range allKinds() {
			for _, to := range []string{"", "/a", "/f", "x", "/new"} {
				wantError(t, sample(), api.Op{Kind: kind, Path: p, To: to, N: math.MaxUint32, Off: math.MaxUint32, Data: letters(api.MaxAttr + 1)}, why)
			}
		}
	}
}

// 15.1: and To's, of what has one.
func TestWrongTos(t *testing.T) {
	for p, why := range wrongPaths() {
		for _, from := range []string{"/f", "/l", "/a/l", "/one", "/lost", "/loop", "/bad"} {
			wantError(t, sample(), api.Op{Kind: api.OpHard, Path: from, To: p}, why)
		}
		for _, from := range []string{"/f", "/l", "/a", "/b", "/one", "/lost", "/loop", "/bad"} {
			wantError(t, sample(), api.Op{Kind: api.OpRename, Path: from, To: p}, why)
		}
	}
	wantError(t, sample(), api.Op{Kind: api.OpHard, Path: "/f", To: "/"}, api.ErrName)
	wantError(t, sample(), api.Op{Kind: api.OpRename, Path: "/f", To: "/"}, api.ErrName)
	wantError(t, sample(), api.Op{Kind: api.OpRename, Path: "/a", To: "/"}, api.ErrName)
}

// 15.1: what is not there.
func TestNothingThere(t *testing.T) {
	for _, p := range []string{"/none", "/a/none", "/b/none", "/l/none", "/a/c/up/none", "/" + letters(api.MaxName)} {
		for _, kind := range but(allKinds(), []api.OpKind{api.OpMake, api.OpMkdir, api.OpLink}) {
			for _, to := range []string{"", "/a", "/none/none", "/new", p} {
				wantError(t, sample(), api.Op{Kind: kind, Path: p, To: to, N: math.MaxUint32, Off: math.MaxUint32}, api.ErrNone)
			}
		}
	}
}

// 15.1: the root is named by no path; it is a directory to which one leads.
func TestRoot(t *testing.T) {
	for _, kind := range ofEntries() {
		wantError(t, sample(), api.Op{Kind: kind, Path: "/", To: "/new"}, api.ErrName)
	}
	for _, kind := range []api.OpKind{api.OpHard, api.OpRead, api.OpWrite, api.OpCut} {
		for _, p := range []string{"/", "/a", "/b", "/a/c"} {
			wantError(t, sample(), api.Op{Kind: kind, Path: p, To: "no path", N: math.MaxUint32, Off: math.MaxUint32}, api.ErrDir)
		}
	}
	for _, kind := range []api.OpKind{api.OpRead, api.OpWrite, api.OpCut} {
		for _, p := range []string{"/l", "/a/c/up", "/a/l", "/l/up/l"} {
			wantError(t, sample(), api.Op{Kind: kind, Path: p, N: math.MaxUint32, Off: math.MaxUint32}, api.ErrDir)
		}
	}
}

// 15.1: links that lead nowhere, where they are followed.
func TestLinksThatLeadNowhere(t *testing.T) {
	for _, kind := range but(allKinds(), append(ofEntries(), api.OpHard)) {
		for p, why := range map[string]api.Errno{"/lost": api.ErrNone, "/loop": api.ErrLoop, "/bad": api.ErrName} {
			wantError(t, sample(), api.Op{Kind: kind, Path: p, To: "k", Data: "a"}, why)
		}
	}
}
