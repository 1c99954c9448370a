package strokegeom

import (
	"math"
	"math/big"
	"math/rand"
	"slices"
	"testing"

	"grisaille/api"
	"grisaille/polygon"
)

const most = api.MaxCoord

func pt(x, y int) api.Point { return api.Point{X: x, Y: y} }

func ring(l ...int) []api.Point {
	var r []api.Point
	for i := 0; i < len(l); i += 2 {
		r = append(r, pt(l[i], l[i+1]))
	}
	return r
}

var style = api.StrokeStyle{Width: 256, Join: api.Miter, Cap: api.Butt, MiterLimit: 1024}

func TestP22_1ValidStyle(t *testing.T) {
	for name, c := range map[string]struct {
		change func(p *api.StrokeStyle)
		want   bool
	}{
		"as it is": {func(p *api.StrokeStyle) {}, true}, "width 1": {func(p *api.StrokeStyle) { p.Width = 1 }, true}, "width 0": {func(p *api.StrokeStyle) { p.Width = 0 }, false}, "greatest width": {func(p *api.StrokeStyle) { p.Width = 16384 }, true}, "width 16385": {func(p *api.StrokeStyle) { p.Width = 16385 }, false},
		"bevel": {func(p *api.StrokeStyle) { p.Join = api.Bevel }, true}, "round join": {func(p *api.StrokeStyle) { p.Join = api.Round }, true}, "butt join": {func(p *api.StrokeStyle) { p.Join = api.Butt }, false}, "no join": {func(p *api.StrokeStyle) { p.Join = 0 }, false},
		"round cap": {func(p *api.StrokeStyle) { p.Cap = api.Round }, true}, "square cap": {func(p *api.StrokeStyle) { p.Cap = api.Square }, true}, "bevel cap": {func(p *api.StrokeStyle) { p.Cap = api.Bevel }, false}, "cap 6": {func(p *api.StrokeStyle) { p.Cap = 6 }, false},
		"limit 256": {func(p *api.StrokeStyle) { p.MiterLimit = 256 }, true}, "limit 255": {func(p *api.StrokeStyle) { p.MiterLimit = 255 }, false}, "limit 65536": {func(p *api.StrokeStyle) { p.MiterLimit = 65536 }, true}, "limit 65537": {func(p *api.StrokeStyle) { p.MiterLimit = 65537 }, false},
		"dash": {func(p *api.StrokeStyle) { p.Dash = []int{1, 0} }, true}, "odd dash": {func(p *api.StrokeStyle) { p.Dash = []int{1, 2, 3} }, false}, "zero dash": {func(p *api.StrokeStyle) { p.Dash = []int{0, 0} }, false}, "negative dash": {func(p *api.StrokeStyle) { p.Dash = []int{5, -1} }, false},
		"dash at the limit": {func(p *api.StrokeStyle) { p.Dash = []int{0, most} }, true}, "dash beyond": {func(p *api.StrokeStyle) { p.Dash = []int{0, most + 1} }, false}, "long dash": {func(p *api.StrokeStyle) { p.Dash = slices.Repeat([]int{1}, 16) }, true}, "too long": {func(p *api.StrokeStyle) { p.Dash = slices.Repeat([]int{1}, 18) }, false},
		"phase": {func(p *api.StrokeStyle) { p.DashPhase = most }, true}, "phase beyond": {func(p *api.StrokeStyle) { p.DashPhase = most + 1 }, false}, "negative phase": {func(p *api.StrokeStyle) { p.DashPhase = -1 }, false}, "empty dash": {func(p *api.StrokeStyle) { p.Dash = []int{} }, true},
	} {
		p := style
		c.change(&p)
		if ValidStyle(p) != c.want {
			t.Error(name)
		}
	}
}

// round is n/d, rounded with ties away from zero.
func round(n, d *big.Int) int {
	neg := n.Sign() < 0
	m := new(big.Int).Abs(n)
	m.Lsh(m, 1).Add(m, d).Quo(m, new(big.Int).Lsh(d, 1))
	if neg {
		m.Neg(m)
	}
	return int(m.Int64())
}

func offset(way api.Point, width int) api.Point {
	d := big.NewInt(65536)
	d.Mul(d, big.NewInt(int64(way.X*way.X+way.Y*way.Y))).Sqrt(d)
	return pt(round(big.NewInt(int64(-way.Y*width*128)), d), round(big.NewInt(int64(way.X*width*128)), d))
}

func someWay(r *rand.Rand) api.Point {
	if r.Intn(3) == 0 {
		return pt(r.Intn(4*most)-2*most, r.Intn(4*most)-2*most)
	}
	return pt(r.Intn(41)-20, r.Intn(41)-20)
}

func TestP22_1P22_3OffsetVector(t *testing.T) {
	if n := OffsetVector(pt(512, 0), 256); n != pt(0, 128) {
		t.Error("the chapter's example", n)
	}
	r := rand.New(rand.NewSource(1))
	for range 5000 {
		way, width := someWay(r), 1+r.Intn(16384)
		if way == pt(0, 0) {
			continue
		}
		n := OffsetVector(way, width)
		if n != offset(way, width) {
			t.Fatal("OffsetVector", way, width, n)
		}
		if back := OffsetVector(pt(-way.X, -way.Y), width); back != pt(-n.X, -n.Y) {
			t.Fatal("the reversed vector", way, width)
		}
	}
	if OffsetVector(pt(2*most, -2*most), 16384) == pt(0, 0) {
		t.Error("the greatest way")
	}
	for _, c := range []struct {
		way   api.Point
		width int
	}{{pt(0, 0), 5}, {pt(2*most+1, 0), 5}, {pt(0, -2*most-1), 5}, {pt(9, 9), 0}, {pt(9, 9), 16385}, {pt(9, 9), -1}, {pt(math.MinInt, math.MaxInt), 5}} {
		if n := OffsetVector(c.way, c.width); n != pt(0, 0) {
			t.Error("OffsetVector", c, n)
		}
	}
}

func TestP22_2Shapes(t *testing.T) {
	if l := SegmentBody(pt(0, 0), pt(512, 0), 256); !slices.Equal(l, ring(0, -128, 512, -128, 512, 128, 0, 128)) {
		t.Error("SegmentBody", l)
	}
	if l := SquareCap(pt(0, 0), pt(512, 0), 256); !slices.Equal(l, ring(512, -128, 640, -128, 640, 128, 512, 128)) {
		t.Error("SquareCap", l)
	}
	if l := SquareDot(pt(10, 20), 5); !slices.Equal(l, ring(7, 17, 13, 17, 13, 23, 7, 23)) {
		t.Error("SquareDot", l)
	}
	want := ring(17384, 2000, 16137, 8270, 12585, 13585, 7270, 17137, 1000, 18384, -5270, 17137, -10585, 13585, -14137, 8270, -15384, 2000, -14137, -4270, -10585, -9585, -5270, -13137, 1000, -14384, 7270, -13137, 12585, -9585, 16137, -4270)
	var half []api.Point // the greatest width is twice half of the directions
	for _, p := range want {
		half = append(half, pt(1000+round(big.NewInt(int64(p.X-1000)), big.NewInt(2)), 2000+round(big.NewInt(int64(p.Y-2000)), big.NewInt(2))))
	}
	if l := RoundDisc(pt(1000, 2000), 16384); !slices.Equal(l, half) {
		t.Error("RoundDisc", l)
	}
	r := rand.New(rand.NewSource(2))
	for range 2000 {
		a, b, width := someWay(r), someWay(r), 1+r.Intn(500)
		a, b = pt(a.X/2, a.Y/2), pt(b.X/2, b.Y/2)
		n := pt(0, 0)
		if a != b {
			n = offset(pt(b.X-a.X, b.Y-a.Y), width)
		}
		e := pt(n.Y, -n.X)
		body := ring(a.X-n.X, a.Y-n.Y, b.X-n.X, b.Y-n.Y, b.X+n.X, b.Y+n.Y, a.X+n.X, a.Y+n.Y)
		end := ring(b.X-n.X, b.Y-n.Y, b.X-n.X+e.X, b.Y-n.Y+e.Y, b.X+n.X+e.X, b.Y+n.Y+e.Y, b.X+n.X, b.Y+n.Y)
		if l := SegmentBody(a, b, width); !slices.Equal(l, polygon.Orient(body)) {
			t.Fatal("SegmentBody", a, b, width, l)
		}
		if l := SquareCap(a, b, width); !slices.Equal(l, polygon.Orient(end)) {
			t.Fatal("SquareCap", a, b, width, l)
		}
		for _, l := range [][]api.Point{RoundDisc(a, width), SquareDot(a, width)} {
			if len(l) > 0 && polygon.DoubleArea(l) <= 0 {
				t.Fatal("not oriented", a, width)
			}
		}
	}
	far, near := pt(most+1, 0), pt(5, 5)
	for name, l := range map[string][]api.Point{
		"body from far": SegmentBody(far, near, 9), "body to far": SegmentBody(near, far, 9), "body of width 0": SegmentBody(near, pt(0, 0), 0), "body of width 16385": SegmentBody(near, pt(0, 0), 16385), "body of a point": SegmentBody(near, near, 9),
		"disc": RoundDisc(far, 9), "disc of width 0": RoundDisc(near, 0), "disc of width -1": RoundDisc(near, -1), "disc of width 16385": RoundDisc(near, 16385), "disc beyond the range": RoundDisc(pt(most, 0), 9), "disc without area": RoundDisc(near, math.MinInt),
		"cap from far": SquareCap(far, near, 9), "cap to far": SquareCap(near, far, 9), "cap of width 0": SquareCap(near, pt(0, 0), 0), "cap of a point": SquareCap(near, near, 9), "cap beyond the range": SquareCap(near, pt(most, most), 99),
		"dot": SquareDot(far, 9), "dot of width 0": SquareDot(near, 0), "dot of width 16385": SquareDot(near, 16385), "dot beyond the range": SquareDot(pt(0, most), 2),
	} {
		if len(l) != 0 {
			t.Error(name, l)
		}
	}
}
