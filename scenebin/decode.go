package scenebin

import (
	"grisaille/api"
	"grisaille/binenc"
)

// A decoder reads values from bytes. After a failure every further value is zero.
type decoder struct {
	b      []byte
	at     int
	failed bool
	packed bool
}

// isDone reports whether all bytes were read without a failure.
func (r *decoder) isDone() bool {
	return !r.failed && r.at == len(r.b)
}

// take accepts a value and the offset behind it, or fails.
func take[T any](r *decoder, v T, at int, e api.Errno) T {
	var none T
	if r.failed || e != api.OK {
		r.failed = true
		return none
	}
	r.at = at
	return v
}

func (r *decoder) int() int {
	n, at, e := binenc.Varint(r.b, r.at)
	return take(r, n, at, e)
}

func (r *decoder) length() uint64 {
	n, at, e := binenc.Uvarint(r.b, r.at)
	return take(r, n, at, e)
}

// bytes reads n bytes.
func (r *decoder) bytes(n int) []byte {
	if r.failed || n > len(r.b)-r.at {
		r.failed = true
		return make([]byte, n)
	}
	r.at += n
	return r.b[r.at-n : r.at : r.at]
}

func (r *decoder) byte() byte {
	return r.bytes(1)[0]
}

func (r *decoder) bool() bool {
	b := r.byte()
	if b > 1 {
		r.failed = true
	}
	return b == 1
}

// header reads bytes that must be there.
func (r *decoder) header(text string) {
	if string(r.bytes(len(text))) != text {
		r.failed = true
	}
}

// getSlice reads the length of a slice and its elements with the given function.
func getSlice[T any](r *decoder, get func() T) []T {
	var l []T
	n := r.length()
	for i := uint64(0); i < n && !r.failed; i++ {
		l = append(l, get())
	}
	return l
}

func (r *decoder) color() api.Color {
	b := r.bytes(4)
	return api.Color{R: b[0], G: b[1], B: b[2], A: b[3]}
}

func (r *decoder) point() api.Point {
	x := r.int()
	return api.Point{X: x, Y: r.int()}
}

func (r *decoder) transform() api.Affine {
	var c [6]api.Rat
	for i := range c {
		f, at, e := binenc.Rational(r.b, r.at)
		c[i] = take(r, f, at, e)
	}
	return api.Affine{A: c[0], B: c[1], C: c[2], D: c[3], E: c[4], F: c[5]}
}

func (r *decoder) segment() api.Segment {
	verb := r.int()
	a, b := r.point(), r.point()
	return api.Segment{Verb: verb, A: a, B: b, C: r.point()}
}

// image reads an image; one whose size no valid image has fails at once, because nothing could be read behind it.
func (r *decoder) image() api.Image {
	m := api.Image{Width: r.int(), Height: r.int()}
	if min(m.Width, m.Height) < 0 || max(m.Width, m.Height) > api.MaxPixelCoord || m.Width*m.Height > api.MaxPixels {
		r.failed = true
		return api.Image{}
	}
	m.Pixels = r.pixels(m.Width * m.Height)
	return m
}

func (r *decoder) pixels(n int) []api.Pixel {
	if r.packed {
		b, at, e := binenc.Bytes(r.b, r.at, len(r.b))
		l, code := DecodePixels(take(r, b, at, e), n)
		if code != api.OK {
			r.failed = true
		}
		return l
	}
	var l []api.Pixel
	for i := 0; i < n && !r.failed; i++ {
		l = append(l, api.Pixel(r.color()))
	}
	return l
}

func (r *decoder) stop() api.ColorStop {
	offset := r.int()
	return api.ColorStop{Offset: offset, Color: r.color()}
}

func (r *decoder) paint() api.Paint {
	p := api.Paint{Kind: r.int(), Color: r.color()}
	p.P0, p.P1 = r.point(), r.point()
	p.Radius = r.int()
	p.Stops = getSlice(r, r.stop)
	p.Spread = r.int()
	p.Image = r.image()
	p.Sampling = r.int()
	p.Transform = r.transform()
	return p
}

func (r *decoder) style() api.StrokeStyle {
	p := api.StrokeStyle{Width: r.int(), Join: r.int(), Cap: r.int(), MiterLimit: r.int(), DashPhase: r.int()}
	p.Dash = getSlice(r, r.int)
	return p
}

func (r *decoder) node() api.Node {
	n := api.Node{ID: r.int(), Kind: r.int(), Depth: r.int(), Transform: r.transform()}
	n.Clip = getSlice(r, r.segment)
	n.ClipRule = r.int()
	switch n.Kind {
	case api.GroupNode:
		n.Opacity = r.byte()
		n.Blend = r.int()
		n.Isolated, n.Knockout = r.bool(), r.bool()
	case api.ShapeNode:
		n.Path = getSlice(r, r.segment)
		n.FillRule = r.int()
		n.Fill, n.Stroke = getSlice(r, r.paint), getSlice(r, r.paint)
		if len(n.Stroke) > 0 {
			n.Style = r.style()
		}
	case api.ImageNode:
		n.Image = r.image()
		n.Sampling = r.int()
	}
	return n
}

func (r *decoder) scene() api.Scene {
	s := api.Scene{Width: r.int(), Height: r.int(), Background: r.color()}
	s.Nodes = getSlice(r, r.node)
	return s
}

func (r *decoder) edit() api.Edit {
	e := api.Edit{Kind: r.int(), ID: r.int(), Index: r.int(), Depth: r.int()}
	switch e.Kind {
	case api.InsertNode, api.ReplaceNode:
		e.Node = r.node()
	case api.SetBackground:
		e.Color = r.color()
	}
	return e
}
