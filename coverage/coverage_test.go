package coverage

import (
	"math"
	"math/rand"
	"reflect"
	"slices"
	"testing"

	"grisaille/api"
	"grisaille/area"
	"grisaille/polygon"
	"grisaille/rational"
	"grisaille/rect"
)

const most = api.MaxCoord

func pt(x, y int) api.Point { return api.Point{X: x, Y: y} }

func r4(x0, y0, x1, y1 int) api.Rect { return api.Rect{X0: x0, Y0: y0, X1: x1, Y1: y1} }

func rat(n, d int) api.Rat {
	f, _ := rational.FromInts(n, d)
	return f
}

func ring(l ...int) []api.Point {
	var r []api.Point
	for i := 0; i < len(l); i += 2 {
		r = append(r, pt(l[i], l[i+1]))
	}
	return r
}

func random(r *rand.Rand, size int) [][]api.Point {
	var l [][]api.Point
	for range 1 + r.Intn(3) {
		var ring []api.Point
		for range 3 + r.Intn(4) {
			ring = append(ring, pt(r.Intn(2*size)-size, r.Intn(2*size)-size))
		}
		l = append(l, ring)
	}
	return l
}

var triangle = [][]api.Point{ring(0, 0, 256, 0, 0, 256)}
var bad = [][]api.Point{ring(0, 0, 256, 0, 0, most+1)}

func isZeroMask(m api.Mask) bool { return m.Bounds == api.Rect{} && len(m.Coverage) == 0 }

func TestP20_1FromAreaAndPixel(t *testing.T) {
	for _, c := range []struct {
		f    api.Rat
		want uint8
	}{
		{rat(-1, 1), 0}, {rat(0, 1), 0}, {api.Rat{}, 0}, {rat(1, 1), 255}, {rat(3, 2), 255}, {rat(1, 2), 128}, {rat(1, 510), 1}, {rat(1, 511), 0}, {rat(509, 510), 255}, {rat(1017, 1020), 254}, {rat(1, 255), 1}, {rat(-1, 510), 0},
		{api.Rat{Num: rat(-2, 1).Num, Den: rat(-4, 1).Num}, 128}, {rat(1<<40, 1<<41+1), 127}, {rat(5, 1<<40), 0}, {rat(999999, 1000000), 255},
	} {
		if got := FromArea(c.f); got != c.want {
			t.Error("FromArea", c, got)
		}
	}
	if Pixel(triangle, api.NonZero, 0, 0) != 128 || Pixel(triangle, api.EvenOdd, 1, 0) != 0 || Pixel(triangle, 0, 0, 0) != 0 || Pixel(bad, 1, 0, 0) != 0 || Pixel(triangle, 1, 4096, 0) != 0 || Pixel(triangle, 1, math.MaxInt, 0) != 0 {
		t.Error("Pixel")
	}
}

func TestP20_2P20_3Mask(t *testing.T) {
	r := rand.New(rand.NewSource(1))
	for range 60 {
		l := random(r, 900)
		rule := 1 + r.Intn(2)
		bounds := r4(-4, -3, 4, 5)
		m, e := Mask(l, rule, bounds)
		if e != api.OK || m.Bounds != bounds || len(m.Coverage) != 64 {
			t.Fatal("Mask", m.Bounds, e)
		}
		box := api.Rect{}
		for i, c := range m.Coverage {
			x, y := i%8-4, i/8-3
			f, _ := area.Pixel(l, rule, x, y)
			if c != FromArea(f) || c != Pixel(l, rule, x, y) {
				t.Fatal("Mask", l, rule, x, y)
			}
			if c != 0 {
				box = rect.Union(box, r4(x, y, x+1, y+1))
			}
		}
		if b, e := Bounds(l, rule, bounds); b != box || e != api.OK {
			t.Fatal("Bounds", l, rule, b, box)
		}
		part := r4(r.Intn(6)-5, r.Intn(6)-4, r.Intn(5), r.Intn(5))
		n, _ := Mask(l, rule, part)
		i := 0
		for y := part.Y0; y < part.Y1 && part.X1 > part.X0; y++ {
			for x := part.X0; x < part.X1; x++ {
				if n.Coverage[i] != Pixel(l, rule, x, y) {
					t.Fatal("another rectangle", l, rule, part)
				}
				i++
			}
		}
	}
	for name, f := range map[string]func(l [][]api.Point, rule int, r api.Rect) (api.Mask, api.Errno){
		"Mask": Mask,
		"Bounds": func(l [][]api.Point, rule int, r api.Rect) (api.Mask, api.Errno) {
			b, e := Bounds(l, rule, r)
			return api.Mask{Bounds: b}, e
		},
		"Accumulate": func(l [][]api.Point, rule int, r api.Rect) (api.Mask, api.Errno) {
			m, e := Accumulate(l, r)
			if e != api.ErrPolygon && rule != 1 {
				e = api.ErrArgument
			}
			return m, e
		},
	} {
		for _, c := range []struct {
			l    [][]api.Point
			rule int
			r    api.Rect
			e    api.Errno
		}{
			{bad, 0, r4(0, 0, 5000, 1), api.ErrPolygon}, {triangle, 0, r4(0, 0, 5000, 1), api.ErrArgument}, {triangle, 1, r4(0, 0, 4097, 1), api.ErrRange}, {triangle, 1, r4(0, -4097, 4096, 4096), api.ErrRange}, {triangle, 1, r4(0, 0, 257, 256), api.ErrLimit},
			{triangle, 1, r4(math.MinInt, 0, math.MaxInt, 1), api.ErrRange},
		} {
			if m, e := f(c.l, c.rule, c.r); e != c.e || !isZeroMask(m) {
				t.Error(name, c, m, e)
			}
		}
		for _, empty := range []api.Rect{{}, r4(3, 3, 3, 9), r4(5, 5, 1, 1), r4(4096, 4096, -4096, -4096)} {
			if m, e := f(triangle, 1, empty); e != api.OK || !isZeroMask(m) {
				t.Error(name, empty, m, e)
			}
		}
		if _, e := f(triangle, 1, r4(-10, -10, 246, 246)); e != api.OK {
			t.Error(name, "of 65536 pixels", e)
		}
	}
}

// slowSigned sums up the chapter's areas, clipping the edge at the sides of the pixel.
func slowSigned(l [][]api.Point, x, y int) api.Rat {
	left, top := rat(256*x, 1), rat(256*y, 1)
	right, bottom := rat(256*x+256, 1), rat(256*y+256, 1)
	sum := rat(0, 1)
	for _, ring := range l {
		for i, a := range ring {
			b := ring[(i+1)%len(ring)]
			if a.Y == b.Y {
				continue
			}
			at := func(h api.Rat) api.Rat { // the X of the edge at a height, within the pixel
				slope := rat(b.X-a.X, b.Y-a.Y)
				f := rational.Add(rat(a.X, 1), rational.Mul(rational.Sub(h, rat(a.Y, 1)), slope))
				if rational.Cmp(f, left) < 0 {
					f = left
				}
				if rational.Cmp(f, right) > 0 {
					f = right
				}
				return rational.Sub(f, left)
			}
			heights := []api.Rat{top, bottom, rat(a.Y, 1), rat(b.Y, 1)}
			if a.X != b.X {
				slope := rat(b.Y-a.Y, b.X-a.X)
				for _, v := range []api.Rat{left, right} {
					heights = append(heights, rational.Add(rat(a.Y, 1), rational.Mul(rational.Sub(v, rat(a.X, 1)), slope)))
				}
			}
			slices.SortFunc(heights, rational.Cmp)
			for j := 1; j < len(heights); j++ {
				low, high := heights[j-1], heights[j]
				mid := rational.Midpoint(low, high)
				if rational.Cmp(mid, top) < 0 || rational.Cmp(mid, bottom) > 0 || rational.Cmp(mid, rat(min(a.Y, b.Y), 1)) < 0 || rational.Cmp(mid, rat(max(a.Y, b.Y), 1)) > 0 {
					continue
				}
				part := rational.Mul(at(mid), rational.Sub(high, low))
				if b.Y < a.Y {
					part = rational.Neg(part)
				}
				sum = rational.Add(sum, part)
			}
		}
	}
	return rational.Mul(sum, rat(1, 65536))
}

func TestP20_4SignedArea(t *testing.T) {
	reversed := [][]api.Point{polygon.Reverse(triangle[0])}
	if f, e := SignedArea(reversed, 0, 0); e != api.OK || !reflect.DeepEqual(f, rat(-1, 2)) {
		t.Error("the chapter's example", f, e)
	}
	r := rand.New(rand.NewSource(2))
	for range 300 {
		l := random(r, 600)
		x, y := r.Intn(6)-3, r.Intn(6)-3
		if f, e := SignedArea(l, x, y); e != api.OK || !reflect.DeepEqual(f, slowSigned(l, x, y)) {
			t.Fatal("SignedArea", l, x, y, f, slowSigned(l, x, y))
		}
	}
	wide := [][]api.Point{ring(-most, -most, most, most-1, -most, most)}
	for _, x := range []int{-4096, -1, 0, 4095} {
		if f, e := SignedArea(wide, x, x); e != api.OK || !reflect.DeepEqual(f, slowSigned(wide, x, x)) {
			t.Error("the largest triangle", x, f, e)
		}
	}
	for _, c := range []struct {
		l    [][]api.Point
		x, y int
		e    api.Errno
	}{{bad, 9999, 0, api.ErrPolygon}, {triangle, 4096, 0, api.ErrRange}, {triangle, 0, -4097, api.ErrRange}, {triangle, math.MaxInt, 0, api.ErrRange}, {triangle, 0, math.MinInt, api.ErrRange}} {
		if f, e := SignedArea(c.l, c.x, c.y); e != c.e || !reflect.DeepEqual(f, api.Rat{}) {
			t.Error("SignedArea", c, f, e)
		}
	}
}

func TestP20_5P20_6Accumulate(t *testing.T) {
	r := rand.New(rand.NewSource(3))
	bounds := r4(-4, -4, 5, 4)
	for range 60 {
		l := random(r, 900)
		m, e := Accumulate(l, bounds)
		if e != api.OK || m.Bounds != bounds {
			t.Fatal("Accumulate", e)
		}
		for i, c := range m.Coverage {
			f, _ := SignedArea(l, i%9-4, i/9-4)
			if c != FromArea(f) {
				t.Fatal("Accumulate", l, i)
			}
		}
		a, _ := SignedArea(l, 0, 0)
		sum := rat(0, 1)
		for _, ring := range l {
			f, _ := SignedArea([][]api.Point{ring}, 0, 0)
			sum = rational.Add(sum, f)
		}
		if !reflect.DeepEqual(a, sum) {
			t.Fatal("SignedArea is not additive", l)
		}
		one := polygon.Orient(l[0][:3])
		if len(one) == 0 {
			continue
		}
		m, _ = Accumulate([][]api.Point{one}, bounds)
		for rule := 1; rule <= 2; rule++ {
			if n, _ := Mask([][]api.Point{one}, rule, bounds); !slices.Equal(m.Coverage, n.Coverage) {
				t.Fatal("a triangle", one)
			}
		}
		m, _ = Accumulate([][]api.Point{polygon.Reverse(one)}, bounds)
		if slices.ContainsFunc(m.Coverage, func(c uint8) bool { return c != 0 }) {
			t.Fatal("a reversed triangle", one)
		}
	}
}
