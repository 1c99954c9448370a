// Package samples makes scenes and edits of all kinds for the tests of the layers.
package samples

import (
	"grisaille/affine"
	"grisaille/api"
	"grisaille/node"
	"grisaille/path"
	"grisaille/rational"
)

// A Source returns numbers from 0 to n - 1; the same numbers give the same samples.
type Source func(n int) int

// between returns a number from low to high.
func (next Source) between(low, high int) int {
	return low + next(high-low+1)
}

func (next Source) pick(l ...int) int {
	return l[next(len(l))]
}

func (next Source) chance(n int) bool {
	return next(n) == 0
}

func (next Source) point(size int) api.Point {
	return api.Point{X: next.between(-size/4, size), Y: next.between(-size/4, size)}
}

func (next Source) color() api.Color {
	return api.Color{R: uint8(next(256)), G: uint8(next(256)), B: uint8(next(256)), A: uint8(next.pick(255, 255, next(256)))}
}

func (next Source) ratio() api.Rat {
	f, _ := rational.FromInts(next.between(1, 6), next.between(2, 4))
	return f
}

// Transform returns a transform that can be inverted.
func Transform(next Source) api.Affine {
	switch next(6) {
	case 0:
		return affine.Translate(rational.FromInt(next.between(-500, 500)), rational.FromInt(next.between(-500, 500)))
	case 1:
		return affine.Scale(next.ratio(), next.ratio())
	case 2:
		t, _ := affine.Compose(affine.QuarterTurn(next(4)), affine.Translate(rational.FromInt(600), next.ratio()))
		return t
	case 3:
		return affine.Skew(next.ratio(), rational.FromInt(0))
	}
	return affine.Identity()
}

// Path returns a path within about size units.
func Path(next Source, size int) []api.Segment {
	if next.chance(4) {
		return path.RoundRect(api.Rect{X0: next(3), Y0: next(3), X1: next.between(3, 6), Y1: next.between(3, 6)}, next(200))
	}
	l := []api.Segment{{Verb: api.MoveTo, A: next.point(size)}}
	for range next.between(2, 5) {
		switch next(5) {
		case 0:
			l = append(l, api.Segment{Verb: api.QuadTo, A: next.point(size), B: next.point(size)})
		case 1:
			l = append(l, api.Segment{Verb: api.CubicTo, A: next.point(size), B: next.point(size), C: next.point(size)})
		default:
			l = append(l, api.Segment{Verb: api.LineTo, A: next.point(size)})
		}
	}
	if next.chance(2) {
		l = append(l, api.Segment{Verb: api.ClosePath})
	}
	return l
}

// Image returns a small image.
func Image(next Source) api.Image {
	m := api.Image{Width: next.between(1, 4), Height: next.between(1, 4)}
	for range m.Width * m.Height {
		a := next.pick(255, next(256))
		m.Pixels = append(m.Pixels, api.Pixel{R: uint8(next(a + 1)), G: uint8(next(a + 1)), B: uint8(next(a + 1)), A: uint8(a)})
	}
	return m
}

func (next Source) stops() []api.ColorStop {
	return []api.ColorStop{{Offset: next(9000), Color: next.color()}, {Offset: 30000, Color: next.color()}, {Offset: 65536 - next(9000), Color: next.color()}}
}

// Paint returns a paint of any kind.
func Paint(next Source) api.Paint {
	switch next(6) {
	case 0:
		return api.Paint{Kind: api.LinearGradient, P0: next.point(900), P1: next.point(2000), Stops: next.stops(), Spread: next.between(1, 3), Transform: Transform(next)}
	case 1:
		return api.Paint{Kind: api.RadialGradient, P0: next.point(900), Radius: next.between(1, 2000), Stops: next.stops(), Spread: next.between(1, 3), Transform: Transform(next)}
	case 2:
		return api.Paint{Kind: api.PatternPaint, Image: Image(next), Spread: next(4), Sampling: next.between(1, 2), Transform: Transform(next)}
	}
	return api.Paint{Kind: api.SolidPaint, Color: next.color()}
}

// Style returns a stroke style.
func Style(next Source) api.StrokeStyle {
	s := api.StrokeStyle{Width: next.between(20, 400), Join: next.pick(api.Miter, api.Bevel, api.Round), Cap: next.pick(api.Round, api.Butt, api.Square), MiterLimit: next.between(256, 2000)}
	if next.chance(3) {
		s.Dash, s.DashPhase = []int{next.between(100, 500), next.between(50, 300)}, next(300)
	}
	return s
}

// Node returns a node of any kind.
func Node(next Source, id, depth int) api.Node {
	n := node.Default(id, next.pick(api.GroupNode, api.ShapeNode, api.ShapeNode, api.ImageNode))
	n.Depth, n.Transform = depth, Transform(next)
	if next.chance(3) {
		n.Clip, n.ClipRule = Path(next, 1500), next.between(1, 2)
	}
	switch n.Kind {
	case api.GroupNode:
		n.Opacity, n.Blend = uint8(next.pick(255, 255, 0, next(256))), next.pick(api.Normal, api.Normal, next.between(1, 13))
		n.Isolated, n.Knockout = next.chance(3), next.chance(3)
	case api.ShapeNode:
		n.Path, n.FillRule = Path(next, 1500), next.between(1, 2)
		if !next.chance(4) {
			n.Fill = []api.Paint{Paint(next)}
		}
		if next.chance(2) {
			n.Stroke, n.Style = []api.Paint{Paint(next)}, Style(next)
		}
	case api.ImageNode:
		n.Image, n.Sampling = Image(next), next.between(1, 2)
		if next.chance(2) {
			n.Transform = affine.Scale(rational.FromInt(3), next.ratio())
		}
	}
	return n
}

// Scene returns a valid scene with a page of a few pixels.
func Scene(next Source) api.Scene {
	s := api.Scene{Width: next.between(3, 8), Height: next.between(3, 8), Background: next.color()}
	for id := range next.between(1, 7) {
		deepest := 0
		if len(s.Nodes) > 0 {
			last := s.Nodes[len(s.Nodes)-1]
			deepest = last.Depth
			if last.Kind == api.GroupNode {
				deepest++
			}
		}
		s.Nodes = append(s.Nodes, Node(next, id+1, next.between(max(0, deepest-1), min(deepest, api.MaxDepth-1))))
	}
	return s
}

// Edit returns an edit of a scene; now and then it cannot be applied.
func Edit(next Source, s api.Scene) api.Edit {
	switch next(5) {
	case 0:
		return api.Edit{Kind: api.InsertNode, Index: next(len(s.Nodes) + 1), Node: Node(next, next.between(50, 90), next(2))}
	case 1:
		return api.Edit{Kind: api.RemoveNode, ID: next.between(1, 9)}
	case 2:
		return api.Edit{Kind: api.MoveNode, ID: next.between(1, 9), Index: next(len(s.Nodes) + 1), Depth: next(2)}
	case 3:
		if len(s.Nodes) > 0 {
			old := s.Nodes[next(len(s.Nodes))]
			return api.Edit{Kind: api.ReplaceNode, Node: Node(next, old.ID, old.Depth)}
		}
	}
	return api.Edit{Kind: api.SetBackground, Color: next.color()}
}
