package hittest

import (
	"math"
	"math/rand"
	"slices"
	"testing"

	"grisaille/api"
	"grisaille/bitmap"
	"grisaille/clip"
	"grisaille/color"
	"grisaille/geometry"
	"grisaille/node"
	"grisaille/path"
	"grisaille/polygon"
	"grisaille/rect"
	"grisaille/render"
	"grisaille/samples"
	"grisaille/scene"
)

func r4(x0, y0, x1, y1 int) api.Rect { return api.Rect{X0: x0, Y0: y0, X1: x1, Y1: y1} }

func pt(x, y int) api.Point { return api.Point{X: x, Y: y} }

func square(id, depth int, r api.Rect) api.Node {
	n := node.Default(id, api.ShapeNode)
	n.Depth, n.Path, n.Fill = depth, path.FromRect(r), []api.Paint{{Kind: api.SolidPaint}}
	return n
}

// sample has two shapes that overlap; the second one is in a group.
func sample() api.Scene {
	return api.Scene{Width: 8, Height: 8, Nodes: []api.Node{square(5, 0, r4(0, 0, 2, 2)), node.Default(6, api.GroupNode), square(7, 1, r4(1, 1, 3, 3))}}
}

// contains is the chapter's definition.
func contains(s api.Scene, i int, p api.Point) bool {
	if !clip.Contains(s, i, p) {
		return false
	}
	switch n := s.Nodes[i]; n.Kind {
	case api.ShapeNode:
		return polygon.Contains(geometry.FillPolygons(s, i), n.FillRule, p) || polygon.Contains(geometry.StrokePolygons(s, i), api.NonZero, p)
	case api.ImageNode:
		return polygon.Contains(geometry.ImagePolygons(s, i), api.NonZero, p)
	}
	for _, c := range scene.Children(s, i) {
		if contains(s, c, p) {
			return true
		}
	}
	return false
}

func TestP44_1Hits(t *testing.T) {
	s := sample()
	both := pt(300, 300)
	if id, ok := TopNodeAt(s, both); id != 7 || !ok {
		t.Error("the chapter's example", id, ok)
	}
	if l := slices.Collect(NodesAt(s, both)); !slices.Equal(l, []int{7, 5}) {
		t.Error("NodesAt", l)
	}
	if l := PathAt(s, both); !slices.Equal(l, []int{6, 7}) {
		t.Error("PathAt", l)
	}
	if l := PathAt(s, pt(0, 0)); !slices.Equal(l, []int{5}) {
		t.Error("PathAt", l)
	}
	if !NodeContains(s, 1, both) || NodeContains(s, 1, pt(0, 0)) {
		t.Error("a group contains what its children contain")
	}
	bad := sample()
	bad.Width = 0
	for _, c := range []struct {
		s api.Scene
		p api.Point
	}{{bad, both}, {s, pt(2000, 0)}, {s, pt(1<<20+1, 0)}, {s, pt(math.MinInt, math.MaxInt)}, {api.Scene{Width: 1, Height: 1}, both}} {
		if id, ok := TopNodeAt(c.s, c.p); id != 0 || ok || len(PathAt(c.s, c.p)) != 0 || len(slices.Collect(NodesAt(c.s, c.p))) != 0 || NodeContains(c.s, 0, c.p) {
			t.Error("nothing there", c.p)
		}
	}
	for _, i := range []int{-1, 3, math.MinInt, math.MaxInt} {
		if NodeContains(s, i, both) {
			t.Error("no such node", i)
		}
	}
	seq := NodesAt(s, both)
	for range 2 {
		for id := range seq {
			if id != 7 {
				t.Error("stopping early and ranging again", id)
			}
			break
		}
	}
	r := rand.New(rand.NewSource(1))
	for range 60 {
		s := samples.Scene(r.Intn)
		for range 12 {
			p := pt(r.Intn(2000)-300, r.Intn(2000)-300)
			var want []int
			for i := len(s.Nodes) - 1; i >= 0; i-- {
				in := contains(s, i, p)
				if NodeContains(s, i, p) != in {
					t.Fatal("NodeContains", i, p)
				}
				if parent := scene.Parent(s, i); in && parent >= 0 && !NodeContains(s, parent, p) {
					t.Fatal("P44.2: the parent of a node that contains a point", i, p)
				}
				if in && s.Nodes[i].Kind != api.GroupNode {
					want = append(want, s.Nodes[i].ID)
				}
			}
			if l := slices.Collect(NodesAt(s, p)); !slices.Equal(l, want) {
				t.Fatal("NodesAt", p, l, want)
			}
			id, ok := TopNodeAt(s, p)
			if ok != (len(want) > 0) || ok && id != want[0] {
				t.Fatal("TopNodeAt", p, id, ok)
			}
			var way []int
			if ok {
				for _, j := range scene.Ancestors(s, scene.IndexOf(s, id)) {
					way = append(way, s.Nodes[j].ID)
				}
			}
			if l := PathAt(s, p); !slices.Equal(l, way) {
				t.Fatal("PathAt", p, l, way)
			}
		}
	}
}

// TestP44_2Background: a pixel without a node at any of its points shows the background.
func TestP44_2Background(t *testing.T) {
	r := rand.New(rand.NewSource(2))
	for range 20 {
		s := samples.Scene(r.Intn)
		page, _ := render.Page(s)
		x, _ := NewIndex(s)
		for py := range s.Height {
			for px := range s.Width {
				if len(x.InRect(r4(px, py, px+1, py+1))) == 0 && bitmap.At(page, px, py) != color.Premultiply(s.Background) {
					t.Fatal("a pixel that no node covers", px, py)
				}
			}
		}
	}
}

func TestP44_3P44_4Index(t *testing.T) {
	if x, e := NewIndex(api.Scene{}); x != nil || e != api.ErrScene {
		t.Error("NewIndex of an invalid scene", e)
	}
	for _, x := range []*Index{nil, {}} {
		if len(x.At(pt(0, 0))) != 0 || len(x.InRect(r4(-4096, -4096, 4096, 4096))) != 0 {
			t.Error("an index that NewIndex did not create")
		}
	}
	s := sample()
	x, e := NewIndex(s)
	s.Nodes[0].Path[2].A.X, s.Nodes[2].ID = 9999, 8
	if l := x.At(pt(300, 300)); e != api.OK || !slices.Equal(l, []int{7, 5}) || !slices.Equal(x.InRect(r4(0, 0, 8, 8)), []int{7, 5}) {
		t.Error("later changes of the scene affect the index", l, e)
	}
	for r, want := range map[api.Rect][]int{r4(0, 0, 1, 1): {5}, r4(2, 2, 3, 3): {7}, r4(3, 0, 9, 9): nil, r4(1, 1, 1, 9): nil, r4(2, 2, 1, 1): nil, r4(0, 0, 4097, 9): nil, r4(math.MinInt, 0, 9, 9): nil, r4(-4096, -4096, 4096, 4096): {7, 5}} {
		if l := x.InRect(r); !slices.Equal(l, want) {
			t.Error("InRect", r, l)
		}
	}
	r := rand.New(rand.NewSource(3))
	for range 60 {
		s := samples.Scene(r.Intn)
		x, e := NewIndex(s)
		if e != api.OK {
			t.Fatal(e)
		}
		for range 10 {
			a := r4(r.Intn(9)-2, r.Intn(9)-2, r.Intn(9)-1, r.Intn(9)-1)
			var want []int
			for i := len(s.Nodes) - 1; i >= 0; i-- {
				box := rect.Union(rect.Union(polygon.PixelBounds(geometry.FillPolygons(s, i)), polygon.PixelBounds(geometry.StrokePolygons(s, i))), polygon.PixelBounds(geometry.ImagePolygons(s, i)))
				if !rect.Empty(rect.Intersect(box, a)) {
					want = append(want, s.Nodes[i].ID)
				}
			}
			got := x.InRect(a)
			if !slices.Equal(got, want) {
				t.Fatal("InRect", a, got, want)
			}
			wide := x.InRect(rect.Outset(a, 2))
			p := pt(r.Intn(2000)-300, r.Intn(2000)-300)
			at := x.At(p)
			if !slices.Equal(at, slices.Collect(NodesAt(s, p))) {
				t.Fatal("At", p, at)
			}
			floor := func(n int) int { return (n+2560)/256 - 10 }
			pixel := x.InRect(r4(floor(p.X), floor(p.Y), floor(p.X)+1, floor(p.Y)+1))
			if !isPart(at, pixel) || !isPart(got, wide) {
				t.Fatal("P44.4", p, at, pixel, got, wide)
			}
		}
	}
}

// isPart reports whether a is contained in b, in the same order.
func isPart(a, b []int) bool {
	for _, n := range b {
		if len(a) > 0 && a[0] == n {
			a = a[1:]
		}
	}
	return len(a) == 0
}
