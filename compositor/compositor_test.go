package compositor

import (
	"math"
	"math/rand"
	"slices"
	"testing"

	"grisaille/affine"
	"grisaille/api"
	"grisaille/bitmap"
	"grisaille/clip"
	"grisaille/color"
	"grisaille/fill"
	"grisaille/geometry"
	"grisaille/mask"
	"grisaille/node"
	"grisaille/paint"
	"grisaille/path"
	"grisaille/samples"
	"grisaille/scene"
	"grisaille/shapemask"
)

func r4(x0, y0, x1, y1 int) api.Rect { return api.Rect{X0: x0, Y0: y0, X1: x1, Y1: y1} }

func isZero(s api.Bitmap) bool { return s.Bounds == api.Rect{} && len(s.Pixels) == 0 }

func randomBitmap(r *rand.Rand, bounds api.Rect) api.Bitmap {
	s, _ := bitmap.New(bounds, api.Pixel{})
	for i := range s.Pixels {
		s.Pixels[i] = color.Clamp(api.Pixel{R: uint8(r.Intn(256)), G: uint8(r.Intn(256)), B: uint8(r.Intn(256)), A: uint8(r.Intn(256))})
	}
	return s
}

// draw is the chapter's definition of drawing a node.
func draw(s api.Scene, i int, d api.Bitmap) api.Bitmap {
	n := s.Nodes[i]
	world, _ := geometry.WorldTransform(s, i)
	use := func(d api.Bitmap, p api.Paint, m api.Mask) api.Bitmap {
		b, e := paint.NewBrush(p, world)
		if e != api.OK {
			return d
		}
		d, _ = fill.WithBrush(d, m, b, api.Normal)
		return d
	}
	switch n.Kind {
	case api.ShapeNode:
		if len(n.Fill) > 0 {
			m, _ := shapemask.FillMask(s, i, d.Bounds)
			d = use(d, n.Fill[0], m)
		}
		if len(n.Stroke) > 0 {
			m, _ := shapemask.StrokeMask(s, i, d.Bounds)
			d = use(d, n.Stroke[0], m)
		}
		return d
	case api.ImageNode:
		m, _ := shapemask.NodeMask(s, i, d.Bounds)
		return use(d, api.Paint{Kind: api.PatternPaint, Image: n.Image, Sampling: n.Sampling, Transform: affine.Identity()}, m)
	}
	k, _ := clip.NodeMask(s, i, d.Bounds)
	k, _ = mask.Scale(k, n.Opacity)
	if n.Isolated || n.Blend != api.Normal {
		empty, _ := bitmap.New(d.Bounds, api.Pixel{})
		out, _ := bitmap.BlendOver(n.Blend, drawAll(s, i, empty), d, k)
		return out
	}
	out, _ := bitmap.LerpMask(d, drawAll(s, i, d), k)
	return out
}

// drawAll is the chapter's definition of drawing the children of a group.
func drawAll(s api.Scene, i int, d api.Bitmap) api.Bitmap {
	e := d
	for _, c := range scene.Children(s, i) {
		if i >= 0 && s.Nodes[i].Knockout {
			m, _ := shapemask.NodeMask(s, c, d.Bounds)
			e, _ = bitmap.LerpMask(e, draw(s, c, d), m)
		} else {
			e = draw(s, c, e)
		}
	}
	return e
}

func TestP41_1P41_2Drawing(t *testing.T) {
	r := rand.New(rand.NewSource(1))
	bounds := r4(-1, -1, 6, 5)
	for range 40 {
		s := samples.Scene(r.Intn)
		d := randomBitmap(r, bounds)
		before := slices.Clone(d.Pixels)
		part := r4(r.Intn(4)-1, r.Intn(4)-1, 4+r.Intn(3), 4+r.Intn(2))
		cut, _ := bitmap.Crop(d, part)
		if got, e := DrawChildren(s, -1, d); e != api.OK || !bitmap.Equal(got, drawAll(s, -1, d)) || !bitmap.Valid(got) {
			t.Fatal("DrawChildren of the top level", e)
		}
		for i, n := range s.Nodes {
			got, e := DrawNode(s, i, d)
			if e != api.OK || !bitmap.Equal(got, draw(s, i, d)) || !bitmap.Valid(got) {
				t.Fatal("DrawNode", i, n.Kind, e)
			}
			first, _ := DrawNode(s, i, cut)
			second, _ := bitmap.Crop(got, part)
			if !bitmap.Equal(first, second) {
				t.Fatal("a cropped bitmap", i, n.Kind)
			}
			empty, _ := bitmap.New(part, api.Pixel{})
			if got, e := DrawIsolated(s, i, part); e != api.OK || !bitmap.Equal(got, draw(s, i, empty)) {
				t.Fatal("DrawIsolated", i, e)
			}
			children, e := DrawChildren(s, i, d)
			if n.Kind != api.GroupNode {
				if e != api.ErrArgument || !isZero(children) {
					t.Fatal("DrawChildren of a node that is no group", i, e)
				}
			} else if e != api.OK || !bitmap.Equal(children, drawAll(s, i, d)) {
				t.Fatal("DrawChildren", i, e)
			}
			checkUncovered(t, s, i, d, got)
			for k := range got.Pixels {
				got.Pixels[k].A++
			}
		}
		if !slices.Equal(before, d.Pixels) {
			t.Fatal("an argument was modified")
		}
	}
}

// checkUncovered: a pixel that neither the node nor a descendant covers keeps its value; groups do not count.
func checkUncovered(t *testing.T, s api.Scene, i int, d, got api.Bitmap) {
	t.Helper()
	touched := make([]bool, len(d.Pixels))
	for j := i; j < scene.SubtreeEnd(s, i); j++ {
		if s.Nodes[j].Kind == api.GroupNode {
			continue
		}
		m, _ := shapemask.NodeMask(s, j, d.Bounds)
		for k, v := range m.Coverage {
			touched[k] = touched[k] || v != 0
		}
	}
	for k, p := range d.Pixels {
		if !touched[k] && got.Pixels[k] != p {
			t.Fatal("a pixel that is not covered", i, k)
		}
	}
}

// square returns a shape that fills the first pixels with a color.
func square(id, depth, size int, c api.Color) api.Node {
	n := node.Default(id, api.ShapeNode)
	n.Depth, n.Path, n.Fill = depth, path.FromRect(r4(0, 0, size, size)), []api.Paint{{Kind: api.SolidPaint, Color: c}}
	return n
}

func TestGroups(t *testing.T) {
	r := rand.New(rand.NewSource(2))
	g := node.Default(1, api.GroupNode)
	red, blue := api.Color{R: 255, A: 128}, api.Color{B: 255, A: 128}
	s := api.Scene{Width: 4, Height: 4, Nodes: []api.Node{g, square(2, 1, 3, red), square(3, 1, 2, blue)}}
	d := randomBitmap(r, r4(0, 0, 4, 4))
	s.Nodes[0].Opacity = 0
	if got, e := DrawNode(s, 0, d); e != api.OK || !bitmap.Equal(got, d) {
		t.Error("a group with opacity 0", e)
	}
	s.Nodes[0].Opacity, s.Nodes[0].Knockout = 255, true
	knocked, _ := DrawNode(s, 0, d)
	over, _ := DrawNode(s, 2, d)
	if bitmap.At(knocked, 0, 0) != bitmap.At(over, 0, 0) || bitmap.At(knocked, 2, 2) == bitmap.At(d, 2, 2) {
		t.Error("in a knockout group the second child is drawn over the backdrop")
	}
	s.Nodes[0].Knockout, s.Nodes[0].Isolated = false, true
	s.Nodes = s.Nodes[:2]
	empty, _ := bitmap.New(d.Bounds, api.Pixel{})
	child, _ := DrawNode(s, 1, empty)
	all, _ := mask.Uniform(d.Bounds, 255)
	want, _ := bitmap.BlendOver(api.Normal, child, d, all)
	if got, _ := DrawNode(s, 0, d); !bitmap.Equal(got, want) {
		t.Error("P41.3: an isolated group with one child")
	}
}

func TestP41_1Errors(t *testing.T) {
	s := api.Scene{Width: 4, Height: 4, Nodes: []api.Node{square(2, 0, 3, api.Color{})}}
	broken := scene.Clone(s)
	broken.Width = 0
	good, _ := bitmap.New(r4(0, 0, 1, 1), api.Pixel{})
	bad := api.Bitmap{Bounds: r4(0, 0, 1, 1)}
	for _, c := range []struct {
		s api.Scene
		i int
		d api.Bitmap
		e api.Errno
	}{{broken, 9, bad, api.ErrScene}, {s, 1, bad, api.ErrNotFound}, {s, -2, bad, api.ErrNotFound}, {s, math.MaxInt, good, api.ErrNotFound}, {s, 0, bad, api.ErrBitmap}} {
		if got, e := DrawNode(c.s, c.i, c.d); e != c.e || !isZero(got) {
			t.Error("DrawNode", c.i, e)
		}
		if got, e := DrawChildren(c.s, c.i, c.d); e != c.e || !isZero(got) {
			t.Error("DrawChildren", c.i, e)
		}
	}
	if got, e := DrawNode(s, -1, good); e != api.ErrNotFound || !isZero(got) {
		t.Error("DrawNode of -1", e)
	}
	if got, e := DrawChildren(s, -1, bad); e != api.ErrBitmap || !isZero(got) {
		t.Error("DrawChildren of -1", e)
	}
	for _, c := range []struct {
		s api.Scene
		i int
		r api.Rect
		e api.Errno
	}{{broken, 9, r4(0, 0, 4097, 1), api.ErrScene}, {s, 1, r4(0, 0, 4097, 1), api.ErrNotFound}, {s, -1, r4(0, 0, 1, 1), api.ErrNotFound}, {s, 0, r4(0, 0, 4097, 1), api.ErrRange}, {s, 0, r4(0, 0, 257, 256), api.ErrLimit}} {
		if got, e := DrawIsolated(c.s, c.i, c.r); e != c.e || !isZero(got) {
			t.Error("DrawIsolated", c.i, c.r, e)
		}
	}
	if got, e := DrawIsolated(s, 0, r4(5, 5, 1, 1)); e != api.OK || !isZero(got) {
		t.Error("an empty rectangle", got, e)
	}
}
