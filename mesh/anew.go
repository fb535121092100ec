package mesh

import (
	"slices"
	"strings"

	"cardamom/api"
)

// anew is m in memory of its own: what is told shares none with what was handed in.
func anew(m api.Mesh) api.Mesh {
	m.Edges = slices.Clone(m.Edges)
	m.Repls = each(m.Repls, newRepl)
	m.Fly = each(m.Fly, newGram)
	m.Issued = each(m.Issued, newVersion)
	return m
}

func newRepl(r api.Repl) api.Repl {
	r.Held = each(r.Held, newVersion)
	r.Views = each(r.Views, newView)
	return r
}

func newVersion(v api.Version) api.Version {
	v.Attrs = slices.Clone(v.Attrs)
	v.Tag = strings.Clone(v.Tag)
	v.Body = strings.Clone(v.Body)
	return v
}

func newView(v api.View) api.View {
	v.Filter = strings.Clone(v.Filter)
	v.Seen = slices.Clone(v.Seen)
	v.Epochs = slices.Clone(v.Epochs)
	return v
}

func newGram(g api.Gram) api.Gram {
	g.B = strings.Clone(g.B)
	return g
}

// each tells all of l anew.
func each[T any](l []T, one func(T) T) []T {
	var out []T
	for _, x := range l {
		out = append(out, one(x))
	}
	return out
}
