package node

import (
	"slices"

	"grisaille/api"
)

// Clone returns the same node in new memory; its coefficients stay as they are.
func Clone(n api.Node) api.Node {
	n.Transform = cloneTransform(n.Transform)
	n.Clip = slices.Clone(n.Clip)
	n.Path = slices.Clone(n.Path)
	n.Fill = clonePaints(n.Fill)
	n.Style.Dash = slices.Clone(n.Style.Dash)
	n.Stroke = clonePaints(n.Stroke)
	n.Image = cloneImage(n.Image)
	return n
}

func cloneInt(a api.Int) api.Int {
	return api.Int{Neg: a.Neg, Mag: slices.Clone(a.Mag)}
}

func cloneRat(f api.Rat) api.Rat {
	return api.Rat{Num: cloneInt(f.Num), Den: cloneInt(f.Den)}
}

func cloneTransform(t api.Affine) api.Affine {
	return api.Affine{A: cloneRat(t.A), B: cloneRat(t.B), C: cloneRat(t.C), D: cloneRat(t.D), E: cloneRat(t.E), F: cloneRat(t.F)}
}

func cloneImage(m api.Image) api.Image {
	m.Pixels = slices.Clone(m.Pixels)
	return m
}

func clonePaints(l []api.Paint) []api.Paint {
	copies := slices.Clone(l)
	for i, p := range copies {
		copies[i].Stops = slices.Clone(p.Stops)
		copies[i].Image = cloneImage(p.Image)
		copies[i].Transform = cloneTransform(p.Transform)
	}
	return copies
}
