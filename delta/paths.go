package delta

import (
	"slices"

	"cambium/api"
)

// apart has the paths that are seen of one alone, or of both otherwise; what is handed in rises by path.
func apart(was, now []api.Seen) []api.Delta {
	var out []api.Delta
	for len(was) > 0 || len(now) > 0 {
		switch {
		case len(now) == 0 || len(was) > 0 && was[0].Path < now[0].Path:
			out = append(out, api.Delta{Path: was[0].Path, Kind: api.DeltaGone})
			was = was[1:]
		case len(was) == 0 || now[0].Path < was[0].Path:
			out = append(out, api.Delta{Path: now[0].Path, Kind: api.DeltaNew})
			now = now[1:]
		default:
			if !same(was[0], now[0]) {
				out = append(out, api.Delta{Path: now[0].Path, Kind: api.DeltaOther})
			}
			was, now = was[1:], now[1:]
		}
	}
	return out
}

// same tells if at one path the same is seen.
func same(a, b api.Seen) bool {
	return a.Kind == b.Kind && a.Mode == b.Mode && a.Text == b.Text && slices.Equal(a.Attrs, b.Attrs)
}
