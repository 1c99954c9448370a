package scenebin

import (
	"grisaille/api"
	"grisaille/binenc"
)

// An encoder collects the bytes of values. It writes the pixels of images plainly or, if packed, run-length encoded.
type encoder struct {
	out    []byte
	packed bool
}

func (w *encoder) bytes(b ...byte) {
	w.out = append(w.out, b...)
}

func (w *encoder) int(n int) {
	w.bytes(binenc.PutVarint(n)...)
}

// ints writes integers without their number.
func (w *encoder) ints(l ...int) {
	for _, n := range l {
		w.int(n)
	}
}

func (w *encoder) length(n int) {
	w.bytes(binenc.PutUvarint(uint64(n))...)
}

func (w *encoder) bool(b bool) {
	if b {
		w.bytes(1)
	} else {
		w.bytes(0)
	}
}

// putSlice writes the length of a slice and its elements with the given function.
func putSlice[T any](w *encoder, l []T, put func(T)) {
	w.length(len(l))
	for _, v := range l {
		put(v)
	}
}

func (w *encoder) color(c api.Color) {
	w.bytes(c.R, c.G, c.B, c.A)
}

func (w *encoder) point(p api.Point) {
	w.ints(p.X, p.Y)
}

func (w *encoder) transform(t api.Affine) {
	for _, f := range [6]api.Rat{t.A, t.B, t.C, t.D, t.E, t.F} {
		w.bytes(binenc.PutRational(f)...)
	}
}

func (w *encoder) segment(s api.Segment) {
	w.int(s.Verb)
	w.point(s.A)
	w.point(s.B)
	w.point(s.C)
}

func (w *encoder) image(m api.Image) {
	w.ints(m.Width, m.Height)
	if w.packed {
		w.bytes(binenc.PutBytes(EncodePixels(m.Pixels))...)
		return
	}
	for _, p := range m.Pixels {
		w.color(api.Color(p))
	}
}

func (w *encoder) stop(s api.ColorStop) {
	w.int(s.Offset)
	w.color(s.Color)
}

func (w *encoder) paint(p api.Paint) {
	w.int(p.Kind)
	w.color(p.Color)
	w.point(p.P0)
	w.point(p.P1)
	w.int(p.Radius)
	putSlice(w, p.Stops, w.stop)
	w.int(p.Spread)
	w.image(p.Image)
	w.int(p.Sampling)
	w.transform(p.Transform)
}

func (w *encoder) style(p api.StrokeStyle) {
	w.ints(p.Width, p.Join, p.Cap, p.MiterLimit, p.DashPhase)
	putSlice(w, p.Dash, w.int)
}

func (w *encoder) node(n api.Node) {
	w.ints(n.ID, n.Kind, n.Depth)
	w.transform(n.Transform)
	putSlice(w, n.Clip, w.segment)
	w.int(n.ClipRule)
	switch n.Kind {
	case api.GroupNode:
		w.bytes(n.Opacity)
		w.int(n.Blend)
		w.bool(n.Isolated)
		w.bool(n.Knockout)
	case api.ShapeNode:
		putSlice(w, n.Path, w.segment)
		w.int(n.FillRule)
		putSlice(w, n.Fill, w.paint)
		putSlice(w, n.Stroke, w.paint)
		if len(n.Stroke) > 0 {
			w.style(n.Style)
		}
	case api.ImageNode:
		w.image(n.Image)
		w.int(n.Sampling)
	}
}

func (w *encoder) scene(s api.Scene) {
	w.ints(s.Width, s.Height)
	w.color(s.Background)
	putSlice(w, s.Nodes, w.node)
}

// edit writes an edit whose unused fields are zero.
func (w *encoder) edit(e api.Edit) {
	w.ints(e.Kind, e.ID, e.Index, e.Depth)
	switch e.Kind {
	case api.InsertNode, api.ReplaceNode:
		w.node(e.Node)
	case api.SetBackground:
		w.color(e.Color)
	}
}
