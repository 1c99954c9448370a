package stroke

import (
	"math"
	"math/rand"
	"slices"
	"testing"

	"grisaille/api"
	"grisaille/linejoin"
	"grisaille/polygon"
	"grisaille/strokegeom"
)

const most = api.MaxCoord

func pt(x, y int) api.Point { return api.Point{X: x, Y: y} }

func line(closed bool, l ...int) api.Polyline {
	p := api.Polyline{Closed: closed}
	for i := 0; i < len(l); i += 2 {
		p.Points = append(p.Points, pt(l[i], l[i+1]))
	}
	return p
}

func style(join, cap int) api.StrokeStyle {
	return api.StrokeStyle{Width: 256, Join: join, Cap: cap, MiterLimit: 1024}
}

func equal(a, b [][]api.Point) bool { return slices.EqualFunc(a, b, slices.Equal[[]api.Point]) }

// parts is the chapter's list of polygons for a polyline without repeated points.
func parts(p api.Polyline, s api.StrokeStyle) [][]api.Point {
	var l [][]api.Point
	q, n := p.Points, len(p.Points)
	if n == 0 {
		return nil
	}
	if n == 1 {
		switch s.Cap {
		case api.Round:
			l = append(l, strokegeom.RoundDisc(q[0], s.Width))
		case api.Square:
			l = append(l, strokegeom.SquareDot(q[0], s.Width))
		}
	} else {
		for i := range n - 1 {
			l = append(l, strokegeom.SegmentBody(q[i], q[i+1], s.Width))
		}
		if p.Closed {
			l = append(l, strokegeom.SegmentBody(q[n-1], q[0], s.Width))
			l = append(l, linejoin.Join(q[n-1], q[0], q[1%n], s)...)
		}
		for i := 1; i < n-1; i++ {
			l = append(l, linejoin.Join(q[i-1], q[i], q[i+1], s)...)
		}
		if p.Closed {
			l = append(l, linejoin.Join(q[n-2], q[n-1], q[0], s)...)
		} else {
			for _, e := range [][2]api.Point{{q[1], q[0]}, {q[n-2], q[n-1]}} {
				switch s.Cap {
				case api.Round:
					l = append(l, strokegeom.RoundDisc(e[1], s.Width))
				case api.Square:
					l = append(l, strokegeom.SquareCap(e[0], e[1], s.Width))
				}
			}
		}
	}
	return slices.DeleteFunc(l, func(r []api.Point) bool { return len(r) == 0 })
}

func TestP24_1Dedup(t *testing.T) {
	for _, c := range []struct{ in, want api.Polyline }{
		{line(false, 0, 0, 0, 0, 1, 1, 1, 1, 0, 0), line(false, 0, 0, 1, 1, 0, 0)}, {line(true, 0, 0, 1, 1, 0, 0, 0, 0), line(true, 0, 0, 1, 1)}, {line(true, 5, 5, 5, 5), line(true, 5, 5)}, {line(true), line(true)}, {line(false, 1, 1, 2, 2, 1, 1, 2, 2), line(false, 1, 1, 2, 2, 1, 1, 2, 2)},
	} {
		got := Dedup(c.in)
		if got.Closed != c.want.Closed || !slices.Equal(got.Points, c.want.Points) {
			t.Error("Dedup", c, got)
		}
		if len(got.Points) > 0 {
			if got.Points[0].X = 77; c.in.Points[0].X == 77 {
				t.Error("Dedup shares memory with its argument")
			}
		}
	}
}

func TestP24_1Polyline(t *testing.T) {
	if l, e := Polyline(line(false, 0, 0, 512, 0), style(api.Miter, api.Butt)); e != api.OK || !equal(l, [][]api.Point{{pt(0, -128), pt(512, -128), pt(512, 128), pt(0, 128)}}) {
		t.Error("one segment", l, e)
	}
	if l, e := Polyline(line(false, 7, 7), style(api.Miter, api.Round)); e != api.OK || len(l) != 1 || len(l[0]) != 16 {
		t.Error("a single point", l, e)
	}
	r := rand.New(rand.NewSource(1))
	for range 3000 {
		p := api.Polyline{Closed: r.Intn(2) == 0}
		for range r.Intn(6) {
			p.Points = append(p.Points, pt(r.Intn(4)*300, r.Intn(4)*300))
		}
		if r.Intn(9) == 0 && len(p.Points) > 0 {
			p.Points[0] = pt(most, -most)
		}
		s := style([]int{api.Miter, api.Bevel, api.Round}[r.Intn(3)], []int{api.Round, api.Butt, api.Square}[r.Intn(3)])
		s.Dash = []int{5, 5}
		l, e := Polyline(p, s)
		if e != api.OK || !equal(l, parts(Dedup(p), s)) {
			t.Fatal("Polyline", p, s, l, e)
		}
		if m, _ := Polyline(Dedup(p), s); !equal(l, m) {
			t.Fatal("Polyline of Dedup", p, s)
		}
		for _, ring := range l {
			if polygon.DoubleArea(ring) <= 0 {
				t.Fatal("a polygon without a positive area", p, s, ring)
			}
		}
		two, e := Polylines([]api.Polyline{p, line(false, 0, 0, 9, 0), p}, s)
		middle, _ := Polyline(line(false, 0, 0, 9, 0), s)
		if e != api.OK || !equal(two, slices.Concat(l, middle, l)) {
			t.Fatal("Polylines", p, s, e)
		}
	}
}

// zigzag returns a polyline of n points.
func zigzag(n int) api.Polyline {
	p := api.Polyline{}
	for i := range n {
		p.Points = append(p.Points, pt(i*4, i%2*300))
	}
	return p
}

func TestP24_1P24_2Errors(t *testing.T) {
	good, bad := style(api.Bevel, api.Butt), style(api.Butt, api.Butt)
	far := line(false, 0, 0, most+1, 0)
	long := api.Polyline{Points: slices.Repeat([]api.Point{pt(1, 1)}, 4097)}
	farLong := api.Polyline{Points: append(slices.Clone(long.Points), pt(0, math.MinInt))}
	for name, c := range map[string]struct {
		p api.Polyline
		s api.StrokeStyle
		e api.Errno
	}{"style first": {farLong, bad, api.ErrStroke}, "then the range": {farLong, good, api.ErrRange}, "then the number": {long, good, api.ErrLimit}, "far": {far, good, api.ErrRange}, "repeated points count": {api.Polyline{Points: long.Points[:4096]}, good, api.OK}, "the result": {zigzag(1000), good, api.ErrLimit}} {
		if l, e := Polyline(c.p, c.s); e != c.e || len(l) != 0 {
			t.Error(name, e)
		}
		if l, e := Polylines([]api.Polyline{line(false, 0, 0, 5, 5), c.p, far}, c.s); len(l) != 0 || c.e != api.OK && e != c.e || c.e == api.OK && e != api.ErrRange {
			t.Error("Polylines:", name, e)
		}
	}
	// 1024 segments of 4 vertices each: the limit. Joins on a straight line are empty.
	straight := api.Polyline{}
	for i := range 1025 {
		straight.Points = append(straight.Points, pt(i*300, 0))
	}
	if l, e := Polyline(straight, good); e != api.OK || len(l) != 1024 {
		t.Error("4096 vertices", len(l), e)
	}
	if l, e := Polylines([]api.Polyline{straight}, good); e != api.OK || len(l) != 1024 {
		t.Error("4096 vertices of one polyline", len(l), e)
	}
	if l, e := Polylines([]api.Polyline{straight, line(false, 0, 0, 5, 5)}, good); e != api.ErrLimit || len(l) != 0 {
		t.Error("4100 vertices", e)
	}
	if l, e := Polylines([]api.Polyline{straight, zigzag(1), far}, good); e != api.ErrRange || len(l) != 0 {
		t.Error("an error of a polyline comes before the limit", e)
	}
	if l, e := Polylines([]api.Polyline{straight, straight, far}, good); e != api.ErrRange || len(l) != 0 {
		t.Error("an error of a polyline comes before the limit", e)
	}
	if l, e := Polylines(nil, good); e != api.OK || len(l) != 0 {
		t.Error("no polylines", e)
	}
	if _, e := Polylines(nil, bad); e != api.ErrStroke {
		t.Error("a style without polylines", e)
	}
}
