package shapemask

import (
	"math"
	"math/rand"
	"testing"

	"grisaille/api"
	"grisaille/clip"
	"grisaille/coverage"
	"grisaille/geometry"
	"grisaille/mask"
	"grisaille/node"
	"grisaille/path"
	"grisaille/rect"
	"grisaille/samples"
	"grisaille/scene"
)

func r4(x0, y0, x1, y1 int) api.Rect { return api.Rect{X0: x0, Y0: y0, X1: x1, Y1: y1} }

func isZero(m api.Mask) bool { return m.Bounds == api.Rect{} && len(m.Coverage) == 0 }

type maskFunc = func(api.Scene, int, api.Rect) (api.Mask, api.Errno)

func all() map[string]maskFunc {
	return map[string]maskFunc{"FillMask": FillMask, "StrokeMask": StrokeMask, "NodeMask": NodeMask}
}

// unclipped is the chapter's definition of the unclipped mask.
func unclipped(s api.Scene, i int, r api.Rect) api.Mask {
	n := s.Nodes[i]
	switch n.Kind {
	case api.ShapeNode:
		fill, _ := coverage.Mask(geometry.FillPolygons(s, i), n.FillRule, r)
		stroke, _ := coverage.Mask(geometry.StrokePolygons(s, i), api.NonZero, r)
		m, _ := mask.Union(fill, stroke)
		return m
	case api.ImageNode:
		m, _ := coverage.Mask(geometry.ImagePolygons(s, i), api.NonZero, r)
		return m
	}
	total, _ := mask.Uniform(r, 0)
	for _, j := range scene.Children(s, i) {
		total, _ = mask.Union(total, whole(s, j, r))
	}
	return total
}

func whole(s api.Scene, i int, r api.Rect) api.Mask {
	clips, _ := clip.NodeMask(s, i, r)
	m, _ := mask.Multiply(unclipped(s, i, r), clips)
	return m
}

func TestP40_1P40_2P40_3Masks(t *testing.T) {
	r := rand.New(rand.NewSource(1))
	bounds := r4(-2, -1, 7, 6)
	for range 25 {
		s := samples.Scene(r.Intn)
		for i, n := range s.Nodes {
			clips, _ := clip.NodeMask(s, i, bounds)
			rule := n.FillRule
			if n.Kind != api.ShapeNode {
				rule = api.NonZero
			}
			fill, _ := coverage.Mask(geometry.FillPolygons(s, i), rule, bounds)
			fill, _ = mask.Multiply(fill, clips)
			stroke, _ := coverage.Mask(geometry.StrokePolygons(s, i), api.NonZero, bounds)
			stroke, _ = mask.Multiply(stroke, clips)
			want := map[string]api.Mask{"FillMask": fill, "StrokeMask": stroke, "NodeMask": whole(s, i, bounds)}
			part := r4(r.Intn(5)-2, r.Intn(5)-1, 3+r.Intn(4), 4+r.Intn(2))
			for name, f := range all() {
				got, e := f(s, i, bounds)
				if e != api.OK || !mask.Equal(got, want[name]) {
					t.Fatal(name, i, e)
				}
				small, _ := f(s, i, part)
				cropped, _ := mask.Crop(got, part)
				if !rect.Empty(part) && !mask.Equal(small, cropped) {
					t.Fatal(name, "in another rectangle", i, part)
				}
				for k := range got.Coverage {
					if clips.Coverage[k] == 0 && got.Coverage[k] != 0 {
						t.Fatal(name, "is not 0 where the clip is", i)
					}
				}
			}
		}
	}
}

func TestErrorsAndEmptyMasks(t *testing.T) {
	h := node.Default(1, api.ShapeNode)
	h.Path = path.FromRect(r4(0, 0, 4, 4))
	s := api.Scene{Width: 4, Height: 4, Nodes: []api.Node{h, node.Default(2, api.GroupNode), node.Default(3, api.ImageNode)}}
	broken := scene.Clone(s)
	broken.Width = 0
	for name, f := range all() {
		for i := range s.Nodes {
			m, e := f(s, i, r4(0, 0, 2, 2))
			visible := name == "NodeMask" && i == 2
			if e != api.OK || len(m.Coverage) != 4 || (mask.Bounds(m) != api.Rect{}) != visible {
				t.Error(name, "of a node without paints, a group without children, or an image", i, m, e)
			}
		}
		for _, c := range []struct {
			s api.Scene
			i int
			r api.Rect
			e api.Errno
		}{{broken, 9, r4(0, 0, 4097, 1), api.ErrScene}, {s, 3, r4(0, 0, 4097, 1), api.ErrNotFound}, {s, -1, r4(0, 0, 1, 1), api.ErrNotFound}, {s, math.MinInt, r4(0, 0, 1, 1), api.ErrNotFound}, {s, 0, r4(0, 0, 4097, 1), api.ErrRange}, {s, 1, r4(math.MinInt, 0, 1, 1), api.ErrRange}, {s, 2, r4(0, 0, 257, 256), api.ErrLimit}} {
			if m, e := f(c.s, c.i, c.r); e != c.e || !isZero(m) {
				t.Error(name, c.i, c.r, e)
			}
		}
		if m, e := f(s, 0, r4(9, 9, 1, 1)); e != api.OK || !isZero(m) {
			t.Error(name, "of an empty rectangle", m, e)
		}
	}
}
