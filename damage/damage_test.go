package damage

import (
	"math"
	"math/rand"
	"slices"
	"testing"

	"grisaille/affine"
	"grisaille/api"
	"grisaille/bitmap"
	"grisaille/geometry"
	"grisaille/node"
	"grisaille/path"
	"grisaille/polygon"
	"grisaille/rational"
	"grisaille/rect"
	"grisaille/render"
	"grisaille/samples"
	"grisaille/scene"
)

func r4(x0, y0, x1, y1 int) api.Rect { return api.Rect{X0: x0, Y0: y0, X1: x1, Y1: y1} }

// square returns a shape of one pixel, moved by (x, y) pixels.
func square(id, depth, x, y int) api.Node {
	n := node.Default(id, api.ShapeNode)
	n.Depth, n.Path = depth, path.FromRect(r4(0, 0, 1, 1))
	n.Fill = []api.Paint{{Kind: api.SolidPaint, Color: api.Color{R: 255, A: 255}}}
	n.Transform = affine.Translate(rational.FromInt(256*x), rational.FromInt(256*y))
	return n
}

func group(id, depth int) api.Node {
	n := node.Default(id, api.GroupNode)
	n.Depth = depth
	return n
}

func page(nodes ...api.Node) api.Scene { return api.Scene{Width: 8, Height: 8, Nodes: nodes} }

// slowBounds is the chapter's definition of the bounds of a node.
func slowBounds(s api.Scene, i int) api.Rect {
	n := s.Nodes[i]
	b := api.Rect{}
	switch n.Kind {
	case api.ShapeNode:
		b = rect.Union(polygon.PixelBounds(geometry.FillPolygons(s, i)), polygon.PixelBounds(geometry.StrokePolygons(s, i)))
	case api.ImageNode:
		b = polygon.PixelBounds(geometry.ImagePolygons(s, i))
	default:
		for _, c := range scene.Children(s, i) {
			b = rect.Union(b, slowBounds(s, c))
		}
	}
	if l, ok := geometry.ClipPolygons(s, i); ok {
		b = rect.Intersect(b, polygon.PixelBounds(l))
	}
	return rect.Intersect(b, r4(0, 0, s.Width, s.Height))
}

func TestP43_1Bounds(t *testing.T) {
	r := rand.New(rand.NewSource(1))
	for range 100 {
		s := samples.Scene(r.Intn)
		all := api.Rect{}
		for i, n := range s.Nodes {
			want := slowBounds(s, i)
			if NodeBounds(s, i) != want {
				t.Fatal("NodeBounds", i, NodeBounds(s, i), want)
			}
			if n.Depth == 0 {
				all = rect.Union(all, want)
			}
		}
		if SceneBounds(s) != all {
			t.Fatal("SceneBounds")
		}
		for _, i := range []int{-1, -2, math.MinInt, len(s.Nodes), math.MaxInt} {
			if NodeBounds(s, i) != (api.Rect{}) {
				t.Fatal("no such node", i)
			}
		}
	}
	bad := page(square(1, 0, 0, 0))
	bad.Width = 0
	if NodeBounds(bad, 0) != (api.Rect{}) || SceneBounds(bad) != (api.Rect{}) || SceneBounds(page()) != (api.Rect{}) {
		t.Error("an invalid or empty scene")
	}
}

// slowChanged is the chapter's definition of the nodes that an edit changes.
func slowChanged(s, after api.Scene, e api.Edit) []int {
	var ids []int
	for id := 1; id < 100; id++ {
		i, j := scene.IndexOf(s, id), scene.IndexOf(after, id)
		shape := i >= 0 && s.Nodes[i].Kind != api.GroupNode || j >= 0 && after.Nodes[j].Kind != api.GroupNode
		same := i >= 0 && j >= 0
		if same {
			a, b := scene.Ancestors(s, i), scene.Ancestors(after, j)
			same = slices.EqualFunc(a, b, func(m, n int) bool { return node.Equal(s.Nodes[m], after.Nodes[n]) })
			root := scene.IndexOf(s, e.ID)
			same = same && !(e.Kind == api.MoveNode && i >= root && i < scene.SubtreeEnd(s, root))
		}
		if shape && !same {
			ids = append(ids, id)
		}
	}
	return ids
}

func slowDamage(s, after api.Scene, e api.Edit) []api.Rect {
	if e.Kind == api.SetBackground {
		return []api.Rect{r4(0, 0, s.Width, s.Height)}
	}
	var l []api.Rect
	ids := slowChanged(s, after, e)
	for _, k := range []api.Scene{s, after} {
		for i, n := range k.Nodes {
			if b := slowBounds(k, i); slices.Contains(ids, n.ID) && !rect.Empty(b) {
				l = append(l, b)
			}
		}
	}
	return l
}

func TestP43_2Changes(t *testing.T) {
	s := page(group(1, 0), square(2, 1, 0, 0), square(3, 1, 1, 0), square(4, 0, 5, 5))
	faded := group(1, 0)
	faded.Opacity = 9
	for name, c := range map[string]struct {
		e    api.Edit
		ids  []int
		want []api.Rect
	}{
		"replace":       {api.Edit{Kind: api.ReplaceNode, Node: square(4, 0, 6, 6)}, []int{4}, []api.Rect{r4(5, 5, 6, 6), r4(6, 6, 7, 7)}},
		"nothing":       {api.Edit{Kind: api.ReplaceNode, Node: square(4, 0, 5, 5)}, nil, nil},
		"group":         {api.Edit{Kind: api.ReplaceNode, Node: faded}, []int{2, 3}, []api.Rect{r4(0, 0, 1, 1), r4(1, 0, 2, 1), r4(0, 0, 1, 1), r4(1, 0, 2, 1)}},
		"move in place": {api.Edit{Kind: api.MoveNode, ID: 4, Index: 3}, []int{4}, []api.Rect{r4(5, 5, 6, 6), r4(5, 5, 6, 6)}},
		"move a group":  {api.Edit{Kind: api.MoveNode, ID: 1, Index: 1}, []int{2, 3}, []api.Rect{r4(0, 0, 1, 1), r4(1, 0, 2, 1), r4(0, 0, 1, 1), r4(1, 0, 2, 1)}},
		"remove":        {api.Edit{Kind: api.RemoveNode, ID: 1}, []int{2, 3}, []api.Rect{r4(0, 0, 1, 1), r4(1, 0, 2, 1)}},
		"insert":        {api.Edit{Kind: api.InsertNode, Index: 0, Node: square(9, 0, 20, 0)}, []int{9}, nil},
		"insert group":  {api.Edit{Kind: api.InsertNode, Index: 0, Node: group(9, 0)}, nil, nil},
		"become group":  {api.Edit{Kind: api.ReplaceNode, Node: group(4, 0)}, []int{4}, []api.Rect{r4(5, 5, 6, 6)}},
		"background":    {api.Edit{Kind: api.SetBackground, Color: api.Color{A: 1}}, nil, []api.Rect{r4(0, 0, 8, 8)}},
	} {
		if ids, e := ChangedNodes(s, c.e); e != api.OK || !slices.Equal(ids, c.ids) {
			t.Error("ChangedNodes", name, ids, e)
		}
		if l, e := DamageRects(s, c.e); e != api.OK || !slices.Equal(l, c.want) {
			t.Error("DamageRects", name, l, e)
		}
	}
	bad := page(square(1, 0, 0, 0), square(1, 0, 0, 0))
	for _, c := range []struct {
		s api.Scene
		e api.Edit
		n api.Errno
	}{{bad, api.Edit{}, api.ErrScene}, {s, api.Edit{}, api.ErrArgument}, {s, api.Edit{Kind: api.RemoveNode, ID: 9}, api.ErrNotFound}} {
		if ids, e := ChangedNodes(c.s, c.e); e != c.n || len(ids) != 0 {
			t.Error("ChangedNodes", e, c.n)
		}
		if l, e := DamageRects(c.s, c.e); e != c.n || len(l) != 0 {
			t.Error("DamageRects", e, c.n)
		}
		if l, e := DamageOfEdits(c.s, []api.Edit{{Kind: api.SetBackground}, c.e}); e != c.n || len(l) != 0 {
			t.Error("DamageOfEdits", e, c.n)
		}
	}
	if _, e := DamageOfEdits(bad, nil); e != api.ErrScene {
		t.Error("DamageOfEdits of an invalid scene", e)
	}
	if l, e := DamageOfEdits(s, nil); e != api.OK || len(l) != 0 {
		t.Error("no edits", l, e)
	}
}

func TestP43_2P43_3NothingElseChanges(t *testing.T) {
	r := rand.New(rand.NewSource(2))
	for range 60 {
		s := samples.Scene(r.Intn)
		start := s
		var edits []api.Edit
		var all []api.Rect
		old, _ := render.Page(s)
		for range 4 {
			e := samples.Edit(r.Intn, s)
			after, code := scene.Apply(s, e)
			if code != api.OK {
				continue
			}
			ids, _ := ChangedNodes(s, e)
			l, _ := DamageRects(s, e)
			if !slices.Equal(ids, slowChanged(s, after, e)) || !slices.Equal(l, slowDamage(s, after, e)) {
				t.Fatal("ChangedNodes or DamageRects", e.Kind, ids, l)
			}
			page, _ := render.Page(after)
			for y := range s.Height {
				for x := range s.Width {
					if bitmap.At(old, x, y) != bitmap.At(page, x, y) && !slices.ContainsFunc(l, func(b api.Rect) bool { return rect.Contains(b, x, y) }) {
						t.Fatal("a pixel outside of the damage changed", e.Kind, x, y, l)
					}
				}
			}
			s, old = after, page
			edits, all = append(edits, e), append(all, l...)
		}
		if l, e := DamageOfEdits(start, edits); e != api.OK || !slices.Equal(l, all) {
			t.Fatal("DamageOfEdits", l, all, e)
		}
	}
}
