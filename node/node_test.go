package node

import (
	"math"
	"reflect"
	"slices"
	"testing"

	"grisaille/affine"
	"grisaille/api"
	"grisaille/integer"
)

func rat(n, d int) api.Rat { return api.Rat{Num: integer.FromInt(n), Den: integer.FromInt(d)} }

var huge = api.Rat{Num: api.Int{Mag: []uint32{0, 0, 0, 0, 0, 0, 0, 0, 1}}, Den: integer.FromInt(1)}

func square() []api.Segment {
	return []api.Segment{{Verb: api.MoveTo}, {Verb: api.LineTo, A: api.Point{X: 9}}, {Verb: api.LineTo, A: api.Point{X: 9, Y: 9}}, {Verb: api.ClosePath}}
}

func solid() api.Paint { return api.Paint{Kind: api.SolidPaint, Color: api.Color{R: 1, A: 9}} }

func pattern() api.Paint {
	return api.Paint{Kind: api.PatternPaint, Image: api.Image{Width: 1, Height: 1, Pixels: []api.Pixel{{A: 3}}}, Sampling: api.Nearest, Transform: affine.Identity()}
}

func linear() api.Paint {
	return api.Paint{Kind: api.LinearGradient, Stops: []api.ColorStop{{}, {Offset: 5}}, Spread: api.Pad, Transform: affine.Identity()}
}

func group() api.Node {
	n := Default(3, api.GroupNode)
	n.Isolated, n.Opacity, n.Blend, n.Depth = true, 99, api.Hue, 7
	n.Clip, n.ClipRule = square(), api.EvenOdd
	return n
}

func shape() api.Node {
	n := Default(4, api.ShapeNode)
	n.Path, n.Fill, n.Stroke = square(), []api.Paint{linear()}, []api.Paint{pattern()}
	n.Style = api.StrokeStyle{Width: 5, Join: api.Round, Cap: api.Butt, MiterLimit: 256, Dash: []int{1, 2}, DashPhase: 3}
	n.Transform = api.Affine{A: rat(2, 4), B: rat(0, 1), C: rat(1, -3), D: rat(5, 1), E: rat(0, 1), F: rat(7, 2)}
	return n
}

func picture() api.Node {
	n := Default(1<<30, api.ImageNode)
	n.Clip, n.ClipRule = square(), api.NonZero
	n.Image = api.Image{Width: 2, Height: 1, Pixels: []api.Pixel{{R: 1, A: 1}, {A: 255}}}
	n.Sampling = api.Bilinear
	return n
}

// A change of a node and the error that it causes; changes stand in the order in which errors are named.
type change struct {
	name string
	f    func(n *api.Node)
	e    api.Errno
}

func common() []change {
	return []change{
		{"kind 0", func(n *api.Node) { n.Kind = 0 }, api.ErrArgument}, {"kind 4", func(n *api.Node) { n.Kind = 4 }, api.ErrArgument}, {"id 0", func(n *api.Node) { n.ID = 0 }, api.ErrRange}, {"id beyond", func(n *api.Node) { n.ID = 1<<30 + 1 }, api.ErrRange}, {"depth -1", func(n *api.Node) { n.Depth = -1 }, api.ErrRange}, {"depth 8", func(n *api.Node) { n.Depth = 8 }, api.ErrRange}, {"far depth", func(n *api.Node) { n.Depth = math.MinInt }, api.ErrRange},
		{"huge transform", func(n *api.Node) { n.Transform.F = huge }, api.ErrLimit}, {"singular transform", func(n *api.Node) { n.Transform = affine.Scale(rat(1, 1), rat(0, 1)) }, api.ErrDivideByZero}, {"zero transform", func(n *api.Node) { n.Transform = api.Affine{} }, api.ErrDivideByZero},
		{"clip", func(n *api.Node) { n.Clip, n.ClipRule = square()[1:], 1 }, api.ErrPath}, {"clip rule 0", func(n *api.Node) { n.Clip, n.ClipRule = square(), 0 }, api.ErrNode}, {"clip rule 3", func(n *api.Node) { n.Clip, n.ClipRule = square(), 3 }, api.ErrNode}, {"clip rule without clip", func(n *api.Node) { n.Clip, n.ClipRule = nil, 1 }, api.ErrNode},
	}
}

func foreign(kind int) []change {
	l := []change{}
	if kind != api.GroupNode {
		l = append(l, change{"opacity", func(n *api.Node) { n.Opacity = 1 }, api.ErrNode}, change{"blend", func(n *api.Node) { n.Blend = 1 }, api.ErrNode}, change{"isolated", func(n *api.Node) { n.Isolated = true }, api.ErrNode}, change{"knockout", func(n *api.Node) { n.Knockout = true }, api.ErrNode})
	}
	if kind != api.ShapeNode {
		l = append(l, change{"path", func(n *api.Node) { n.Path = square()[:1] }, api.ErrNode}, change{"fill rule", func(n *api.Node) { n.FillRule = 1 }, api.ErrNode}, change{"fill", func(n *api.Node) { n.Fill = []api.Paint{solid()} }, api.ErrNode}, change{"stroke", func(n *api.Node) { n.Stroke = []api.Paint{solid()} }, api.ErrNode},
			change{"width", func(n *api.Node) { n.Style.Width = 1 }, api.ErrNode}, change{"dash", func(n *api.Node) { n.Style.Dash = []int{0} }, api.ErrNode}, change{"phase", func(n *api.Node) { n.Style.DashPhase = 1 }, api.ErrNode}, change{"join", func(n *api.Node) { n.Style.Join = 1 }, api.ErrNode}, change{"cap", func(n *api.Node) { n.Style.Cap = 1 }, api.ErrNode}, change{"miter limit", func(n *api.Node) { n.Style.MiterLimit = 1 }, api.ErrNode})
	}
	if kind != api.ImageNode {
		l = append(l, change{"width of an image", func(n *api.Node) { n.Image.Width = 1 }, api.ErrNode}, change{"height of an image", func(n *api.Node) { n.Image.Height = 1 }, api.ErrNode}, change{"pixels", func(n *api.Node) { n.Image.Pixels = []api.Pixel{{}} }, api.ErrNode}, change{"sampling", func(n *api.Node) { n.Sampling = 1 }, api.ErrNode})
	}
	return l
}

func own(kind int) []change {
	switch kind {
	case api.GroupNode:
		return []change{{"mode 0", func(n *api.Node) { n.Blend = 0 }, api.ErrArgument}, {"mode 14", func(n *api.Node) { n.Blend = 14 }, api.ErrArgument}}
	case api.ShapeNode:
		return []change{
			{"path", func(n *api.Node) { n.Path = square()[1:] }, api.ErrPath}, {"rule 0", func(n *api.Node) { n.FillRule = 0 }, api.ErrArgument}, {"rule 3", func(n *api.Node) { n.FillRule = 3 }, api.ErrArgument}, {"two fills", func(n *api.Node) { n.Fill = []api.Paint{solid(), solid()} }, api.ErrLimit}, {"two strokes", func(n *api.Node) { n.Stroke = []api.Paint{solid(), {}} }, api.ErrLimit},
			{"style", func(n *api.Node) { n.Stroke, n.Style.Width = []api.Paint{solid()}, 0 }, api.ErrStroke}, {"style without stroke", func(n *api.Node) { n.Stroke, n.Style.Width = nil, 5 }, api.ErrNode}, {"fill paint", func(n *api.Node) { n.Fill = []api.Paint{{}} }, api.ErrPaint}, {"stroke paint", func(n *api.Node) {
				n.Stroke, n.Style = []api.Paint{{}}, shape().Style
			}, api.ErrPaint},
		}
	}
	return []change{{"image", func(n *api.Node) { n.Image.Width = 9 }, api.ErrPaint}, {"sampling 0", func(n *api.Node) { n.Sampling = 0 }, api.ErrArgument}, {"sampling 3", func(n *api.Node) { n.Sampling = 3 }, api.ErrArgument}}
}

func TestP36_1Check(t *testing.T) {
	for _, make := range []func() api.Node{group, shape, picture} {
		if e := Check(make()); e != api.OK || !Valid(make()) {
			t.Fatal("a valid node", make().Kind, e)
		}
		kind := make().Kind
		all := slices.Concat(common(), foreign(kind), own(kind))
		for i, c := range all {
			n := make()
			c.f(&n)
			if e := Check(n); e != c.e || Valid(n) {
				t.Error("Check", kind, c.name, e)
			}
			for _, d := range all[i+1:] { // the error that is named first
				m := make()
				d.f(&m)
				c.f(&m)
				if e := Check(m); e != c.e && !overwrites(c, d, make) {
					t.Error("Check", kind, c.name, "before", d.name, e)
				}
			}
		}
	}
	n := shape()
	n.Stroke, n.Style = nil, api.StrokeStyle{Dash: []int{}}
	n.Fill, n.Clip = []api.Paint{}, []api.Segment{}
	if e := Check(n); e != api.OK {
		t.Error("empty slices", e)
	}
	n.Stroke, n.Style, n.Fill = []api.Paint{{}}, api.StrokeStyle{}, []api.Paint{{}}
	if e := Check(n); e != api.ErrStroke {
		t.Error("the style comes before the paints", e)
	}
}

// overwrites reports whether the change c takes d back or turns it into another one.
func overwrites(c, d change, make func() api.Node) bool {
	n, m := make(), make()
	c.f(&n)
	d.f(&m)
	c.f(&m)
	return Equal(n, m) || Check(m) == c.e || n.Kind != make().Kind
}

func TestP36_2EqualCloneDefault(t *testing.T) {
	for _, make := range []func() api.Node{group, shape, picture} {
		if !Equal(make(), make()) {
			t.Error("Equal", make().Kind)
		}
		kind := make().Kind
		for _, c := range slices.Concat(common(), foreign(kind), own(kind)) {
			n := make()
			c.f(&n)
			if Equal(n, make()) != reflect.DeepEqual(n, make()) || Equal(make(), n) != Equal(n, make()) {
				t.Error("Equal", kind, c.name)
			}
			copied := Clone(n)
			if !Equal(copied, n) || Check(copied) != Check(n) || !reflect.DeepEqual(copied, n) {
				t.Error("Clone", kind, c.name)
			}
		}
	}
	for name, f := range map[string]func(n *api.Node){
		"a stop": func(n *api.Node) { n.Fill[0].Stops[1].Offset++ }, "a pixel of a paint": func(n *api.Node) { n.Stroke[0].Image.Pixels[0].A++ }, "a dash": func(n *api.Node) { n.Style.Dash[1]++ }, "a point": func(n *api.Node) { n.Path[2].A.Y++ }, "a coefficient": func(n *api.Node) { n.Transform.A.Num.Mag[0]++ },
		"a coefficient of a paint": func(n *api.Node) { n.Fill[0].Transform.A.Num.Mag[0]++ }, "a clip point": func(n *api.Node) { n.Clip = square(); n.Clip[1].A.X++ },
	} {
		n := shape()
		copied := Clone(n)
		f(&n)
		if Equal(n, copied) || !reflect.DeepEqual(copied, shape()) {
			t.Error("Clone shares memory, or Equal does not look at", name)
		}
	}
	clipped := picture()
	copied := Clone(clipped)
	clipped.Clip[1].A.X++
	clipped.Image.Pixels[0].A++
	if !reflect.DeepEqual(copied, picture()) {
		t.Error("Clone shares memory")
	}
	half := shape()
	half.Transform.A = rat(1, 2)
	if !Equal(half, shape()) || reflect.DeepEqual(Clone(shape()).Transform.A, half.Transform.A) {
		t.Error("coefficients are compared by value and copied as they are")
	}
	id := affine.Identity()
	for kind, want := range map[int]api.Node{
		api.GroupNode: {ID: 7, Kind: api.GroupNode, Transform: id, Opacity: 255, Blend: api.Normal}, api.ShapeNode: {ID: 7, Kind: api.ShapeNode, Transform: id, FillRule: api.NonZero},
		api.ImageNode: {ID: 7, Kind: api.ImageNode, Transform: id, Image: api.Image{Width: 1, Height: 1, Pixels: []api.Pixel{{}}}, Sampling: api.Nearest}, 0: {}, 4: {}, -1: {},
	} {
		if n := Default(7, kind); !reflect.DeepEqual(n, want) {
			t.Error("Default", kind, n)
		}
	}
}

func TestP36_3Default(t *testing.T) {
	for _, id := range []int{math.MinInt, -1, 0, 1, 1 << 30, 1<<30 + 1} {
		for kind := -1; kind < 6; kind++ {
			if want := id >= 1 && id <= 1<<30 && kind >= 1 && kind <= 3; Valid(Default(id, kind)) != want {
				t.Error("Default", id, kind)
			}
		}
	}
}
