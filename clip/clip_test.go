package clip

import (
	"math"
	"math/rand"
	"testing"

	"grisaille/affine"
	"grisaille/api"
	"grisaille/coverage"
	"grisaille/geometry"
	"grisaille/mask"
	"grisaille/node"
	"grisaille/path"
	"grisaille/polygon"
	"grisaille/rational"
	"grisaille/rect"
	"grisaille/samples"
	"grisaille/scene"
)

func r4(x0, y0, x1, y1 int) api.Rect { return api.Rect{X0: x0, Y0: y0, X1: x1, Y1: y1} }

// halves is a shape in a group; the clips of both cover the same half of the first pixel.
func halves() api.Scene {
	half := []api.Segment{{Verb: api.MoveTo}, {Verb: api.LineTo, A: api.Point{X: 128}}, {Verb: api.LineTo, A: api.Point{X: 128, Y: 256}}, {Verb: api.LineTo, A: api.Point{Y: 256}}, {Verb: api.ClosePath}}
	g, h := node.Default(1, api.GroupNode), node.Default(2, api.ShapeNode)
	h.Depth = 1
	g.Clip, g.ClipRule, h.Clip, h.ClipRule = half, 1, half, 2
	return api.Scene{Width: 4, Height: 4, Nodes: []api.Node{g, h}}
}

func isZero(m api.Mask) bool { return m.Bounds == api.Rect{} && len(m.Coverage) == 0 }

func TestP39_1Errors(t *testing.T) {
	if m, e := ChainMask(halves(), 1, r4(0, 0, 1, 1)); e != api.OK || m.Coverage[0] != 64 {
		t.Error("the chapter's example", m, e)
	}
	broken := halves()
	broken.Width = 0
	for _, c := range []struct {
		s api.Scene
		i int
		r api.Rect
		e api.Errno
	}{
		{broken, 9, r4(0, 0, 4097, 1), api.ErrScene}, {halves(), 2, r4(0, 0, 4097, 1), api.ErrNotFound}, {halves(), -1, r4(0, 0, 1, 1), api.ErrNotFound}, {halves(), math.MaxInt, r4(0, 0, 1, 1), api.ErrNotFound}, {halves(), 0, r4(0, 0, 4097, 1), api.ErrRange}, {halves(), 1, r4(0, math.MinInt, 1, 1), api.ErrRange}, {halves(), 1, r4(0, 0, 257, 256), api.ErrLimit},
	} {
		for name, f := range map[string]func(api.Scene, int, api.Rect) (api.Mask, api.Errno){"NodeMask": NodeMask, "ChainMask": ChainMask} {
			if m, e := f(c.s, c.i, c.r); e != c.e || !isZero(m) {
				t.Error(name, c.i, c.r, e)
			}
		}
	}
	for _, f := range []func(api.Scene, int, api.Rect) (api.Mask, api.Errno){NodeMask, ChainMask} {
		if m, e := f(halves(), 1, r4(4, 4, 1, 9)); e != api.OK || !isZero(m) {
			t.Error("an empty rectangle", m, e)
		}
		if m, e := f(halves(), 1, r4(-128, -128, 128, 128)); e != api.OK || len(m.Coverage) != 65536 {
			t.Error("65536 pixels", e)
		}
	}
	// A clip whose polygons cannot be computed covers nothing.
	far := halves()
	far.Nodes[1].Transform = affine.Scale(rational.FromInt(1<<20), rational.FromInt(1<<20))
	for _, f := range []func(api.Scene, int, api.Rect) (api.Mask, api.Errno){NodeMask, ChainMask} {
		if m, e := f(far, 1, r4(0, 0, 2, 1)); e != api.OK || m.Coverage[0] != 0 || m.Coverage[1] != 0 {
			t.Error("a clip out of range", m, e)
		}
	}
	if Contains(far, 1, api.Point{X: 5, Y: 5}) {
		t.Error("a point in a clip out of range")
	}
}

func TestP39_1P39_3Masks(t *testing.T) {
	r := rand.New(rand.NewSource(1))
	for range 60 {
		s := samples.Scene(r.Intn)
		bounds := r4(-2, -1, 7, 6)
		for i := range s.Nodes {
			want, _ := mask.Uniform(bounds, 255)
			for _, j := range scene.Ancestors(s, i) {
				own, _ := mask.Uniform(bounds, 255)
				if polygons, ok := geometry.ClipPolygons(s, j); ok {
					own, _ = coverage.Mask(polygons, s.Nodes[j].ClipRule, bounds)
				}
				if got, e := NodeMask(s, j, bounds); e != api.OK || !mask.Equal(got, own) {
					t.Fatal("NodeMask", i, j, e)
				}
				want, _ = mask.Multiply(want, own)
			}
			got, e := ChainMask(s, i, bounds)
			if e != api.OK || !mask.Equal(got, want) {
				t.Fatal("ChainMask", i, e)
			}
			for _, j := range scene.Ancestors(s, i) {
				own, _ := NodeMask(s, j, bounds)
				for k := range got.Coverage {
					if got.Coverage[k] > own.Coverage[k] {
						t.Fatal("ChainMask is above a clip mask of the chain", i, j)
					}
				}
			}
			part := r4(r.Intn(5)-2, r.Intn(5)-1, 1+r.Intn(6), r.Intn(6))
			small, _ := ChainMask(s, i, part)
			cropped, _ := mask.Crop(got, part)
			if !rect.Empty(part) && rect.Within(part, bounds) && !mask.Equal(small, cropped) {
				t.Fatal("another rectangle", i, part)
			}
		}
	}
}

func TestP39_2Contains(t *testing.T) {
	s := halves()
	for _, c := range []struct {
		i    int
		p    api.Point
		want bool
	}{{0, api.Point{}, true}, {1, api.Point{X: 127, Y: 255}, true}, {1, api.Point{X: 128, Y: 5}, false}, {1, api.Point{Y: 256}, false}, {2, api.Point{}, false}, {-1, api.Point{}, false}, {0, api.Point{X: 1<<20 + 1}, false}, {0, api.Point{Y: math.MinInt}, false}} {
		if Contains(s, c.i, c.p) != c.want {
			t.Error("Contains", c)
		}
	}
	plain := halves()
	plain.Nodes[0].Clip, plain.Nodes[0].ClipRule, plain.Nodes[1].Clip, plain.Nodes[1].ClipRule = nil, 0, nil, 0
	if !Contains(plain, 1, api.Point{X: 1 << 20, Y: -1 << 20}) || Contains(plain, 1, api.Point{X: 1<<20 + 1}) || Contains(plain, 1, api.Point{Y: -1<<20 - 1}) {
		t.Error("no clips: every valid point is inside")
	}
	plain.Width = 0
	if Contains(plain, 1, api.Point{}) {
		t.Error("an invalid scene")
	}
	star := halves()
	star.Nodes[0].Clip = append(path.FromRect(r4(0, 0, 4, 4)), path.FromRect(r4(1, 1, 3, 3))...)
	star.Nodes[1].Clip, star.Nodes[1].ClipRule = nil, 0
	for rule, want := range map[int]bool{api.NonZero: true, api.EvenOdd: false} {
		star.Nodes[0].ClipRule = rule
		if Contains(star, 1, api.Point{X: 512, Y: 512}) != want || !Contains(star, 1, api.Point{X: 100, Y: 512}) {
			t.Error("the clip rule", rule)
		}
	}
	r := rand.New(rand.NewSource(2))
	for range 100 {
		s := samples.Scene(r.Intn)
		for i := range s.Nodes {
			for range 20 {
				p := api.Point{X: r.Intn(2000) - 400, Y: r.Intn(2000) - 400}
				want := true
				for _, j := range scene.Ancestors(s, i) {
					if polygons, ok := geometry.ClipPolygons(s, j); ok {
						if len(polygons) > 0 && r.Intn(3) == 0 {
							p = polygons[0][r.Intn(len(polygons[0]))] // a vertex
							want = Contains(s, i, p)
							break
						}
						want = want && polygon.Contains(polygons, s.Nodes[j].ClipRule, p)
					}
				}
				if Contains(s, i, p) != want {
					t.Fatal("Contains", i, p)
				}
			}
		}
	}
	for range 3000 { // the local winding rule against that of package polygon, also on edges and vertices
		ring := make([]api.Point, 3+r.Intn(5))
		for k := range ring {
			ring[k] = api.Point{X: r.Intn(7) - 3, Y: r.Intn(7) - 3}
		}
		p := api.Point{X: r.Intn(9) - 4, Y: r.Intn(9) - 4}
		for rule := 1; rule <= 2; rule++ {
			if isInside([][]api.Point{ring, ring[:3]}, rule, p) != polygon.Contains([][]api.Point{ring, ring[:3]}, rule, p) {
				t.Fatal("isInside", ring, rule, p)
			}
		}
	}
}
