package geometry

import (
	"math"
	"math/rand"
	"reflect"
	"slices"
	"testing"

	"grisaille/affine"
	"grisaille/api"
	"grisaille/node"
	"grisaille/outline"
	"grisaille/path"
	"grisaille/polygon"
	"grisaille/rational"
	"grisaille/samples"
	"grisaille/scene"
	"grisaille/vec"
)

func pt(x, y int) api.Point { return api.Point{X: x, Y: y} }

func equal(a, b [][]api.Point) bool { return slices.EqualFunc(a, b, slices.Equal[[]api.Point]) }

func onePixel() []api.Segment { return path.FromRect(api.Rect{X1: 1, Y1: 1}) }

// scaled is a shape of one pixel in a group with a scale of 2.
func scaled() api.Scene {
	g, h := node.Default(1, api.GroupNode), node.Default(2, api.ShapeNode)
	g.Transform = affine.Scale(rational.FromInt(2), rational.FromInt(2))
	h.Depth, h.Path, h.Fill = 1, onePixel(), []api.Paint{{Kind: api.SolidPaint}}
	return api.Scene{Width: 4, Height: 4, Nodes: []api.Node{g, h}}
}

func TestExamples(t *testing.T) {
	s := scaled()
	if l := FillPolygons(s, 1); !equal(l, [][]api.Point{{pt(0, 0), pt(512, 0), pt(512, 512), pt(0, 512)}}) {
		t.Error("FillPolygons", l)
	}
	if x, y, e := PageToNode(s, 1, pt(512, 0)); e != api.OK || rational.Cmp(x, rational.FromInt(256)) != 0 || rational.Cmp(y, rational.FromInt(0)) != 0 {
		t.Error("PageToNode", x, y, e)
	}
	if p, ok := Anchor(s, 1, 128, 128); p != pt(256, 256) || !ok {
		t.Error("Anchor", p, ok)
	}
}

// world is the chapter's definition of the world transform.
func world(s api.Scene, i int) (api.Affine, api.Errno) {
	l := []api.Affine{}
	for j := i; j >= 0; j = scene.Parent(s, j) {
		l = append(l, s.Nodes[j].Transform)
	}
	return affine.Compose(l...)
}

func TestP38_1P38_2P38_4P38_5Definitions(t *testing.T) {
	r := rand.New(rand.NewSource(1))
	if Tolerance != 32 {
		t.Error("Tolerance")
	}
	for range 150 {
		s := samples.Scene(r.Intn)
		for i, n := range s.Nodes {
			m, e := world(s, i)
			if got, code := WorldTransform(s, i); code != e || !affine.Equal(got, m) {
				t.Fatal("WorldTransform", i, code)
			}
			var fill, stroke, clip, image [][]api.Point
			if n.Kind == api.ShapeNode && len(n.Fill) > 0 {
				fill, _ = outline.Fill(n.Path, m, 32)
			}
			if n.Kind == api.ShapeNode && len(n.Stroke) > 0 {
				stroke, _ = outline.Stroke(n.Path, n.Style, m, 32)
			}
			if n.Kind == api.ImageNode {
				image, _ = outline.Fill(path.FromRect(api.Rect{X1: n.Image.Width, Y1: n.Image.Height}), m, 32)
			}
			clip, _ = outline.Fill(n.Clip, m, 32)
			got, ok := ClipPolygons(s, i)
			if !equal(FillPolygons(s, i), fill) || !equal(StrokePolygons(s, i), stroke) || !equal(ImagePolygons(s, i), image) || !equal(got, clip) || ok != (len(n.Clip) > 0) {
				t.Fatal("the polygons of a node", i)
			}
			p := pt(r.Intn(4000)-2000, r.Intn(4000)-2000)
			want, e := affine.Apply(m, p)
			if q, code := NodeToPage(s, i, p); q != want || code != e {
				t.Fatal("NodeToPage", i, p, q, code)
			}
			x, y, e := PageToNode(s, i, p)
			u, v := affine.ApplyExact(m, x, y)
			if e != api.OK || rational.Cmp(u, rational.FromInt(p.X)) != 0 || rational.Cmp(v, rational.FromInt(p.Y)) != 0 || !rational.IsNormalized(x) || !rational.IsNormalized(y) {
				t.Fatal("PageToNode", i, p, e)
			}
			a, b := r.Intn(300)-20, r.Intn(300)-20
			low, high, some := polygon.Bounds(slices.Concat(fill, stroke, image))
			anchor, found := Anchor(s, i, a, b)
			if found != some || some && anchor != pt(vec.Lerp(low, high, a, 256).X, vec.Lerp(low, high, b, 256).Y) || !some && anchor != pt(0, 0) {
				t.Fatal("Anchor", i, a, b, anchor, found)
			}
		}
	}
}

func TestErrors(t *testing.T) {
	s := scaled()
	broken := scaled()
	broken.Width = 0
	for _, c := range []struct {
		s api.Scene
		i int
		e api.Errno
	}{{broken, 0, api.ErrScene}, {broken, 9, api.ErrScene}, {s, 2, api.ErrNotFound}, {s, -1, api.ErrNotFound}, {s, math.MaxInt, api.ErrNotFound}} {
		if m, e := WorldTransform(c.s, c.i); e != c.e || !reflect.DeepEqual(m, api.Affine{}) {
			t.Error("WorldTransform", c.i, e)
		}
		if p, e := NodeToPage(c.s, c.i, pt(1<<21, 0)); e != c.e || p != pt(0, 0) {
			t.Error("NodeToPage", c.i, e)
		}
		if x, y, e := PageToNode(c.s, c.i, pt(1<<21, 0)); e != c.e || !reflect.DeepEqual([]api.Rat{x, y}, make([]api.Rat, 2)) {
			t.Error("PageToNode", c.i, e)
		}
		polygons, clipped := ClipPolygons(c.s, c.i)
		if len(FillPolygons(c.s, c.i))+len(StrokePolygons(c.s, c.i))+len(ImagePolygons(c.s, c.i))+len(polygons) != 0 || clipped {
			t.Error("polygons of no node", c.i)
		}
		if p, ok := Anchor(c.s, c.i, 0, 0); ok || p != pt(0, 0) {
			t.Error("Anchor", c.i)
		}
	}
	if p, e := NodeToPage(s, 1, pt(1<<20, 0)); e != api.ErrRange || p != pt(0, 0) {
		t.Error("NodeToPage out of range", e)
	}
	if x, _, e := PageToNode(s, 1, pt(0, -1<<20-1)); e != api.ErrRange || len(x.Den.Mag) != 0 {
		t.Error("PageToNode out of range", e)
	}
	// Two valid transforms whose composition is not: the node has a clip, but nothing can be computed.
	far := scaled()
	great := affine.Scale(api.Rat{Num: api.Int{Mag: []uint32{0, 0, 0, 0, 0, 0, 256}}, Den: rational.FromInt(1).Num}, rational.FromInt(1))
	far.Nodes[0].Transform, far.Nodes[1].Transform = great, great
	far.Nodes[1].Clip, far.Nodes[1].ClipRule = onePixel(), 1
	polygons, clipped := ClipPolygons(far, 1)
	if len(polygons) != 0 || !clipped || len(FillPolygons(far, 1)) != 0 {
		t.Error("a world transform beyond the limit", polygons, clipped)
	}
	if m, e := WorldTransform(far, 1); e != api.ErrLimit || !reflect.DeepEqual(m, api.Affine{}) {
		t.Error("WorldTransform", e)
	}
	if _, _, e := PageToNode(far, 1, pt(1<<21, 0)); e != api.ErrLimit {
		t.Error("PageToNode: the error of WorldTransform comes first", e)
	}
	// A transform whose inverse is beyond the limit.
	narrow := scaled()
	small, _ := rational.Quo(rational.FromInt(1), api.Rat{Num: api.Int{Mag: []uint32{0, 0, 0, 16}}, Den: rational.FromInt(1).Num})
	narrow.Nodes[0].Transform = api.Affine{A: great.A, D: rational.FromInt(1), E: small}
	narrow.Nodes[1].Transform = affine.Identity()
	if x, _, e := PageToNode(narrow, 1, pt(0, 0)); e != api.ErrLimit || len(x.Den.Mag) != 0 {
		t.Error("the error of the inverse", e)
	}
}

func TestP38_3P38_6Translation(t *testing.T) {
	r := rand.New(rand.NewSource(2))
	for range 100 {
		s := samples.Scene(r.Intn)
		by := pt(256*(r.Intn(9)-4), 256*(r.Intn(9)-4))
		moved := scene.Clone(s)
		moved.Nodes[0].Transform, _ = affine.Compose(s.Nodes[0].Transform, affine.Translate(rational.FromInt(by.X), rational.FromInt(by.Y)))
		for i := range scene.SubtreeEnd(s, 0) {
			clip, _ := ClipPolygons(s, i)
			movedClip, _ := ClipPolygons(moved, i)
			for k, l := range [][2][][]api.Point{{FillPolygons(s, i), FillPolygons(moved, i)}, {StrokePolygons(s, i), StrokePolygons(moved, i)}, {ImagePolygons(s, i), ImagePolygons(moved, i)}, {clip, movedClip}} {
				if !equal(polygon.Translate(l[0], by), l[1]) {
					t.Fatal("a translation", i, k)
				}
			}
			a, ok := Anchor(s, i, 100, 30)
			b, _ := Anchor(moved, i, 100, 30)
			if ok && b != pt(a.X+by.X, a.Y+by.Y) {
				t.Fatal("a translated anchor", i)
			}
		}
	}
}
