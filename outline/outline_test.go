package outline

import (
	"math"
	"math/rand"
	"slices"
	"testing"

	"grisaille/affine"
	"grisaille/api"
	"grisaille/dash"
	"grisaille/flatten"
	"grisaille/path"
	"grisaille/polygon"
	"grisaille/rational"
	"grisaille/stroke"
)

const most = api.MaxCoord

func pt(x, y int) api.Point { return api.Point{X: x, Y: y} }

func equal(a, b [][]api.Point) bool { return slices.EqualFunc(a, b, slices.Equal[[]api.Point]) }

func rat(n, d int) api.Rat {
	f, _ := rational.FromInts(n, d)
	return f
}

func move(x, y int) api.Segment { return api.Segment{Verb: api.MoveTo, A: pt(x, y)} }
func line(x, y int) api.Segment { return api.Segment{Verb: api.LineTo, A: pt(x, y)} }

var closing = api.Segment{Verb: api.ClosePath}

var pen = api.StrokeStyle{Width: 256, Join: api.Bevel, Cap: api.Butt, MiterLimit: 1024}

var tooWide = api.Affine{A: api.Rat{Num: api.Int{Mag: []uint32{0, 0, 0, 0, 0, 0, 0, 0, 1}}, Den: api.Int{Mag: []uint32{1}}}}

// random returns a path and a transform that does not leave the range.
func random(r *rand.Rand) ([]api.Segment, api.Affine) {
	n := func() int { return r.Intn(1000) - 500 }
	l := []api.Segment{move(n(), n())}
	for range 1 + r.Intn(4) {
		switch r.Intn(4) {
		case 0:
			l = append(l, line(n(), n()), move(n(), n()), line(n(), n()))
		case 1:
			l = append(l, api.Segment{Verb: api.QuadTo, A: pt(n(), n()), B: pt(n(), n())})
		case 2:
			l = append(l, api.Segment{Verb: api.CubicTo, A: pt(n(), n()), B: pt(n(), n()), C: pt(n(), n())}, closing, move(n(), n()))
		default:
			l = append(l, line(n(), n()))
		}
	}
	t, _ := affine.Compose(affine.Scale(rat(1+r.Intn(5), 2), rat(1+r.Intn(5), 3)), affine.Skew(rat(r.Intn(3), 7), rat(r.Intn(3), 5)))
	return l, t
}

func TestP26_1Fill(t *testing.T) {
	square := path.FromRect(api.Rect{X1: 1, Y1: 1})
	if l, e := Fill(square, affine.Identity(), 32); e != api.OK || !equal(l, [][]api.Point{{pt(0, 0), pt(256, 0), pt(256, 256), pt(0, 256)}}) {
		t.Error("the chapter's example", l, e)
	}
	if l, e := Fill(nil, affine.Identity(), 1); e != api.OK || len(l) != 0 {
		t.Error("the empty path", l, e)
	}
	wild := []api.Segment{move(-most, 0), {Verb: api.QuadTo, A: pt(most, 0), B: pt(-most, 0)}}
	for name, c := range map[string]struct {
		l   []api.Segment
		t   api.Affine
		tol int
		e   api.Errno
	}{
		"path first": {[]api.Segment{closing}, tooWide, 0, api.ErrPath}, "then the transform": {[]api.Segment{move(most+0, 0)}, tooWide, 0, api.ErrLimit}, "range": {[]api.Segment{move(most, 0)}, affine.Scale(rat(2, 1), rat(1, 1)), 0, api.ErrRange},
		"tolerance": {wild, affine.Identity(), 0, api.ErrArgument}, "curve": {wild, affine.Identity(), 1, api.ErrCurveSegments},
	} {
		if l, e := Fill(c.l, c.t, c.tol); e != c.e || len(l) != 0 {
			t.Error(name, e)
		}
	}
	r := rand.New(rand.NewSource(1))
	for range 300 {
		l, m := random(r)
		moved, _ := path.Transform(l, m)
		lines, _ := flatten.Path(moved, 8)
		if got, e := Fill(l, m, 8); e != api.OK || !equal(got, polygon.FromPolylines(lines)) {
			t.Fatal("Fill", l, m, e)
		}
	}
}

func TestP26_2StrokeAndTransform(t *testing.T) {
	r := rand.New(rand.NewSource(2))
	for range 200 {
		l, m := random(r)
		s := pen
		if r.Intn(2) == 0 {
			s.Dash = []int{300, 200}
		}
		var all []api.Polyline
		lines, _ := flatten.Path(l, 64)
		for _, p := range lines {
			parts, _ := dash.Apply(p, s)
			all = append(all, parts...)
		}
		want, _ := stroke.Polylines(all, s)
		for _, ring := range want {
			for i, p := range ring {
				ring[i], _ = affine.Apply(m, p)
			}
		}
		if got, e := Stroke(l, s, m, 64); e != api.OK || !equal(got, want) {
			t.Fatal("Stroke", l, s, m, e)
		}
	}
	bad := pen
	bad.Width = 0
	dashed := pen
	dashed.Dash = []int{1, 1}
	curls := []api.Segment{move(0, 0)}
	for i := range 60 {
		curls = append(curls, api.Segment{Verb: api.QuadTo, A: pt(i%2*1000, 8000), B: pt(1000-i%2*1000, 0)})
	}
	wild := []api.Segment{move(-most, 0), {Verb: api.QuadTo, A: pt(most, 0), B: pt(-most, 0)}}
	long := []api.Segment{move(0, 0), line(most, 0)}
	for name, c := range map[string]struct {
		l   []api.Segment
		s   api.StrokeStyle
		t   api.Affine
		tol int
		e   api.Errno
	}{
		"style first": {[]api.Segment{closing}, bad, tooWide, 0, api.ErrStroke}, "path": {[]api.Segment{closing}, pen, tooWide, 0, api.ErrPath}, "tolerance": {wild, pen, tooWide, 0, api.ErrArgument}, "curve": {wild, pen, tooWide, 1, api.ErrCurveSegments},
		"dashes": {long, dashed, tooWide, 1, api.ErrLimit}, "stroke": {curls, pen, affine.Identity(), 1, api.ErrLimit}, "transform": {[]api.Segment{move(0, 0), line(9, 9)}, pen, tooWide, 1, api.ErrLimit}, "range": {[]api.Segment{move(0, 0), line(most/2, 9)}, pen, affine.Scale(rat(3, 1), rat(1, 1)), 1, api.ErrRange},
	} {
		if l, e := Stroke(c.l, c.s, c.t, c.tol); e != c.e || len(l) != 0 {
			t.Error(name, e)
		}
	}
	if l, e := Stroke([]api.Segment{move(0, 0)}, pen, tooWide, 1); e != api.OK || len(l) != 0 {
		t.Error("no polygons, no transform", l, e)
	}
	rings := [][]api.Point{{pt(1, 2)}, nil, {pt(3, 4), pt(5, 6)}}
	if l, e := Transform(rings, affine.Scale(rat(1, 2), rat(2, 1))); e != api.OK || !equal(l, [][]api.Point{{pt(1, 4)}, nil, {pt(2, 8), pt(3, 12)}}) {
		t.Error("Transform", l, e)
	}
	for _, c := range []struct {
		l [][]api.Point
		t api.Affine
		e api.Errno
	}{{[][]api.Point{{pt(most+1, 0)}}, tooWide, api.ErrPolygon}, {rings, tooWide, api.ErrLimit}, {[][]api.Point{{pt(0, 0), pt(most, 0)}}, affine.Scale(rat(2, 1), rat(1, 1)), api.ErrRange}} {
		if l, e := Transform(c.l, c.t); e != c.e || len(l) != 0 {
			t.Error("Transform", c.e, e)
		}
	}
}

func TestP26_3P26_6Consequences(t *testing.T) {
	r := rand.New(rand.NewSource(3))
	by := affine.Translate(rat(1000, 1), rat(-700, 1))
	for range 200 {
		l, _ := random(r)
		s := pen
		s.Join, s.Cap, s.MiterLimit = []int{api.Miter, api.Bevel, api.Round}[r.Intn(3)], []int{api.Butt, api.Round, api.Square}[r.Intn(3)], 256+r.Intn(2000)
		s.Width = 1 + r.Intn(600)
		fill, _ := Fill(l, affine.Identity(), 16)
		stroked, e := Stroke(l, s, affine.Identity(), 16)
		if e != api.OK {
			t.Fatal(e)
		}
		movedFill, _ := Fill(l, by, 16)
		movedStroke, _ := Stroke(l, s, by, 16)
		if !equal(movedFill, polygon.Translate(fill, pt(1000, -700))) || !equal(movedStroke, polygon.Translate(stroked, pt(1000, -700))) {
			t.Fatal("a translation", l)
		}
		low, high, _ := path.Bounds(l)
		inBox(t, fill, low, high)
		low, high, ok := StrokeBounds(l, s)
		if !ok {
			t.Fatal("StrokeBounds", l, s)
		}
		inBox(t, stroked, low, high)
	}
}

func inBox(t *testing.T, l [][]api.Point, low, high api.Point) {
	t.Helper()
	for _, ring := range l {
		for _, p := range ring {
			if p.X < low.X || p.X > high.X || p.Y < low.Y || p.Y > high.Y {
				t.Fatal("a vertex outside of the bounds", p, low, high)
			}
		}
	}
}

func TestP26_4StrokeBounds(t *testing.T) {
	l := []api.Segment{move(0, 0), line(512, 0)}
	with := func(join, width, limit int) api.StrokeStyle {
		return api.StrokeStyle{Width: width, Join: join, Cap: api.Butt, MiterLimit: limit}
	}
	for _, c := range []struct {
		s api.StrokeStyle
		m int
	}{{with(api.Bevel, 256, 65536), 258}, {with(api.Round, 256, 65536), 258}, {with(api.Miter, 256, 256), 258}, {with(api.Miter, 256, 512), 258}, {with(api.Miter, 256, 1025), 514}, {with(api.Miter, 3, 769), 6}, {with(api.Miter, 16384, 65536), 2097154}} {
		low, high, ok := StrokeBounds(l, c.s)
		if low != pt(-c.m, -c.m) || high != pt(512+c.m, c.m) || !ok {
			t.Error("StrokeBounds", c, low, high, ok)
		}
	}
	for name, c := range map[string]struct {
		l []api.Segment
		s api.StrokeStyle
	}{"style": {l, with(api.Bevel, 0, 256)}, "path": {[]api.Segment{closing}, pen}, "no points": {nil, pen}} {
		if low, high, ok := StrokeBounds(c.l, c.s); low != pt(0, 0) || high != pt(0, 0) || ok {
			t.Error(name, low, high, ok)
		}
	}
}

func TestP26_5P26_6Offset(t *testing.T) {
	square := []api.Point{pt(0, 0), pt(0, 999), pt(999, 999), pt(999, 0)} // turned the wrong way
	l := [][]api.Point{{pt(0, 0), pt(50, 50)}, square}
	got, e := Offset(l, 40)
	round := api.StrokeStyle{Width: 80, Join: api.Round, Cap: api.Round, MiterLimit: 256}
	a, _ := stroke.Polyline(api.Polyline{Points: l[0], Closed: true}, round)
	b, _ := stroke.Polyline(api.Polyline{Points: l[1], Closed: true}, round)
	if want := slices.Concat([][]api.Point{polygon.Orient(square)}, a, b); e != api.OK || !equal(got, want) {
		t.Error("Offset", got, e)
	}
	many := make([]api.Point, 300)
	for i := range many {
		many[i] = pt(i*8, i%2*500)
	}
	full := slices.Repeat([][]api.Point{square}, 50) // 50 times 4 + 4*4 + 4*16 vertices
	for name, c := range map[string]struct {
		l [][]api.Point
		d int
		e api.Errno
	}{
		"polygons first": {[][]api.Point{{pt(most+1, 0)}}, 0, api.ErrPolygon}, "distance 0": {l, 0, api.ErrArgument}, "distance -1": {l, math.MinInt, api.ErrArgument}, "distance 8193": {l, 8193, api.ErrArgument}, "a great distance": {l, math.MaxInt, api.ErrArgument},
		"a stroke": {[][]api.Point{many}, 5, api.ErrLimit}, "all together": {full, 5, api.ErrLimit},
	} {
		if l, e := Offset(c.l, c.d); e != c.e || len(l) != 0 {
			t.Error(name, e)
		}
	}
	if l, e := Offset(full[:48], 8192); e != api.OK || len(l) == 0 {
		t.Error("the greatest distance", e)
	}
	exact := full[:4:4] // 4 times 84 vertices, and 16 for each point
	for range 235 {
		exact = append(exact, []api.Point{pt(9, 9)})
	}
	if l, e := Offset(exact, 5); e != api.OK || len(l) != 4*9+235 {
		t.Error("4096 vertices", len(l), e)
	}
	if l, e := Offset(append(exact, exact[4]), 5); e != api.ErrLimit || len(l) != 0 {
		t.Error("4112 vertices", e)
	}
	if l, e := Offset(nil, 1); e != api.OK || len(l) != 0 {
		t.Error("no polygons", e)
	}
	r := rand.New(rand.NewSource(4))
	for range 300 {
		triangle := [][]api.Point{{pt(r.Intn(600), r.Intn(600)), pt(r.Intn(600), r.Intn(600)), pt(r.Intn(600), r.Intn(600))}}
		wide, e := Offset(triangle, 2+r.Intn(60))
		if e != api.OK {
			t.Fatal(e)
		}
		p := pt(r.Intn(600), r.Intn(600))
		if polygon.Contains(triangle, api.NonZero, p) && !polygon.Contains(wide, api.NonZero, p) {
			t.Fatal("a point inside", triangle, p)
		}
		for _, p := range triangle[0] {
			if !polygon.Contains(wide, api.NonZero, p) {
				t.Fatal("a vertex", triangle, p)
			}
		}
	}
}
