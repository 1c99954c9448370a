package area

import (
	"math"
	"math/rand"
	"reflect"
	"testing"

	"grisaille/api"
	"grisaille/intersect"
	"grisaille/polygon"
	"grisaille/rational"
	"grisaille/scanline"
)

const most = api.MaxCoord

func pt(x, y int) api.Point { return api.Point{X: x, Y: y} }

func rat(n, d int) api.Rat {
	f, _ := rational.FromInts(n, d)
	return f
}

func ring(l ...int) []api.Point {
	var r []api.Point
	for i := 0; i < len(l); i += 2 {
		r = append(r, pt(l[i], l[i+1]))
	}
	return r
}

// random returns rings, some of them convex, near the origin.
func random(r *rand.Rand, size int) [][]api.Point {
	var l [][]api.Point
	for range 1 + r.Intn(4) {
		var ring []api.Point
		for range 3 + r.Intn(5) {
			ring = append(ring, pt(r.Intn(2*size)-size, r.Intn(2*size)-size))
		}
		switch r.Intn(3) {
		case 0:
			ring = polygon.ConvexHull(ring)
		case 1:
			ring = polygon.Reverse(polygon.ConvexHull(ring))
		}
		l = append(l, ring)
	}
	return l
}

// byBands is the chapter's definition, to the letter.
func byBands(l [][]api.Point, rule int, a, b api.Point) api.Rat {
	sum := rat(0, 1)
	if b.X <= a.X || b.Y <= a.Y {
		return sum
	}
	ys := intersect.EventYs(l, a, b)
	for i := 1; i < len(ys); i++ {
		length := scanline.Length(scanline.Spans(l, rule, rational.Midpoint(ys[i-1], ys[i])), rational.FromInt(a.X), rational.FromInt(b.X))
		sum = rational.Add(sum, rational.Mul(rational.Sub(ys[i], ys[i-1]), length))
	}
	return sum
}

func TestP19_1InBox(t *testing.T) {
	r := rand.New(rand.NewSource(1))
	for range 1500 {
		l := random(r, 12)
		a, b := pt(r.Intn(24)-12, r.Intn(24)-12), pt(r.Intn(24)-12, r.Intn(24)-12)
		if r.Intn(2) == 0 {
			b = pt(a.X+1+r.Intn(5), a.Y+1+r.Intn(5))
		}
		for _, rule := range []int{api.NonZero, api.EvenOdd} {
			got, e := InBox(l, rule, a, b)
			if want := byBands(l, rule, a, b); e != api.OK || !reflect.DeepEqual(got, want) {
				t.Fatal("InBox", l, rule, a, b, got, want)
			}
		}
	}
	triangle := [][]api.Point{ring(0, 0, 256, 0, 0, 256)}
	bad := [][]api.Point{ring(0, 0, 256, 0, 0, most+1)}
	for _, c := range []struct {
		l    [][]api.Point
		rule int
		a, b api.Point
		e    api.Errno
	}{
		{bad, 0, pt(most+1, 0), pt(0, 0), api.ErrPolygon}, {triangle, 0, pt(most+1, 0), pt(0, 0), api.ErrArgument}, {triangle, 3, pt(0, 0), pt(1, 1), api.ErrArgument}, {triangle, -1, pt(0, 0), pt(0, 0), api.ErrArgument},
		{triangle, api.NonZero, pt(most+1, 0), pt(0, 0), api.ErrRange}, {triangle, api.EvenOdd, pt(0, 0), pt(0, -most-1), api.ErrRange},
	} {
		if f, e := InBox(c.l, c.rule, c.a, c.b); e != c.e || !reflect.DeepEqual(f, api.Rat{}) {
			t.Error("InBox", c, f, e)
		}
	}
	for _, b := range []api.Point{pt(0, 9), pt(9, 0), pt(-1, 9), pt(9, -1)} {
		if f, e := InBox(triangle, api.NonZero, pt(0, 0), b); e != api.OK || !reflect.DeepEqual(f, rat(0, 1)) {
			t.Error("a box without area", b, f, e)
		}
	}
	if f, e := InBox(nil, api.NonZero, pt(0, 0), pt(5, 5)); e != api.OK || !reflect.DeepEqual(f, rat(0, 1)) {
		t.Error("no polygons", f, e)
	}
	large := [][]api.Point{ring(-most, -most, most, -most, most, most, -most, most)}
	if f, e := InBox(large, api.EvenOdd, pt(-most, -most), pt(most, most)); e != api.OK || !reflect.DeepEqual(f, rat(4*most*most, 1)) {
		t.Error("the largest box", f, e)
	}
}

func TestP19_2PixelRectTotal(t *testing.T) {
	triangle := [][]api.Point{ring(0, 0, 256, 0, 0, 256)}
	if f, e := Pixel(triangle, api.NonZero, 0, 0); e != api.OK || !reflect.DeepEqual(f, rat(1, 2)) {
		t.Error("the chapter's example", f, e)
	}
	bad := [][]api.Point{ring(0, 0, 256, 0, 0, most+1)}
	for _, c := range []struct {
		l          [][]api.Point
		rule, x, y int
		e          api.Errno
	}{
		{bad, 0, 5000, 0, api.ErrPolygon}, {triangle, 0, 5000, 0, api.ErrArgument}, {triangle, 1, 4096, 0, api.ErrRange}, {triangle, 1, 0, 4096, api.ErrRange}, {triangle, 1, -4097, 0, api.ErrRange}, {triangle, 1, 0, math.MaxInt, api.ErrRange}, {triangle, 1, math.MinInt, 0, api.ErrRange},
		{triangle, 1, 1 << 56, 0, api.ErrRange},
	} {
		if f, e := Pixel(c.l, c.rule, c.x, c.y); e != c.e || !reflect.DeepEqual(f, api.Rat{}) {
			t.Error("Pixel", c, f, e)
		}
		if f, e := Rect(c.l, c.rule, api.Rect{X0: c.x, Y0: c.y, X1: 4097, Y1: 0}); e != c.e || !reflect.DeepEqual(f, api.Rat{}) {
			t.Error("Rect", c, f, e)
		}
	}
	if f, e := Total(bad, 0); e != api.ErrPolygon || !reflect.DeepEqual(f, api.Rat{}) {
		t.Error("Total", f, e)
	}
	if f, e := Total(triangle, 3); e != api.ErrArgument || !reflect.DeepEqual(f, api.Rat{}) {
		t.Error("Total", f, e)
	}
	for _, x := range []int{-4096, 4095} {
		if f, e := Pixel(triangle, 1, x, x); e != api.OK || !reflect.DeepEqual(f, rat(0, 1)) {
			t.Error("a pixel at the end", x, f, e)
		}
	}
	for _, r := range []api.Rect{{}, {X0: 2, X1: 1, Y1: 5}, {X0: -4096, Y0: 4096, X1: 4096, Y1: -4096}} {
		if f, e := Rect(triangle, 1, r); e != api.OK || !reflect.DeepEqual(f, rat(0, 1)) {
			t.Error("an empty rectangle", r, f, e)
		}
	}
	for _, l := range [][][]api.Point{nil, {nil}, {ring(5, 5)}, {ring(0, 0, 9, 9)}} {
		if f, e := Total(l, 1); e != api.OK || !reflect.DeepEqual(f, rat(0, 1)) {
			t.Error("Total of no area", l, f, e)
		}
	}
	r := rand.New(rand.NewSource(2))
	for range 150 {
		l := random(r, 700)
		for _, rule := range []int{api.NonZero, api.EvenOdd} {
			sum := rat(0, 1)
			for y := -3; y < 3; y++ {
				for x := -3; x < 3; x++ {
					f, e := Pixel(l, rule, x, y)
					want := byBands(l, rule, pt(256*x, 256*y), pt(256*x+256, 256*y+256))
					if e != api.OK || !reflect.DeepEqual(f, rational.Mul(want, rat(1, 65536))) {
						t.Fatal("Pixel", l, rule, x, y)
					}
					sum = rational.Add(sum, f)
				}
			}
			if f, e := Rect(l, rule, api.Rect{X0: -3, Y0: -3, X1: 3, Y1: 3}); e != api.OK || !reflect.DeepEqual(f, sum) {
				t.Fatal("Rect", l, rule, f, sum)
			}
			if f, e := Total(l, rule); e != api.OK || !reflect.DeepEqual(f, sum) {
				t.Fatal("Total", l, rule, f, sum)
			}
		}
	}
}

func TestP19_3Exactness(t *testing.T) {
	r := rand.New(rand.NewSource(3))
	for range 300 {
		l := random(r, 50)
		a := pt(r.Intn(50)-50, r.Intn(50)-50)
		b := pt(a.X+2+r.Intn(60), a.Y+2+r.Intn(60))
		x, y := a.X+1+r.Intn(b.X-a.X-1), a.Y+1+r.Intn(b.Y-a.Y-1)
		rule := 1 + r.Intn(2)
		in := func(a, b api.Point) api.Rat {
			f, _ := InBox(l, rule, a, b)
			return f
		}
		whole := in(a, b)
		if !reflect.DeepEqual(rational.Add(in(a, pt(x, b.Y)), in(pt(x, a.Y), b)), whole) || !reflect.DeepEqual(rational.Add(in(a, pt(b.X, y)), in(pt(a.X, y), b)), whole) {
			t.Fatal("a split box", l, a, b, x, y)
		}
		for _, ring := range l {
			if !intersect.IsSimple([][]api.Point{ring}) {
				continue
			}
			n := polygon.DoubleArea(ring)
			if f, _ := Total([][]api.Point{ring}, rule); !reflect.DeepEqual(f, rat(max(n, -n), 131072)) {
				t.Fatal("Total of a simple ring", ring)
			}
		}
	}
	if f, _ := InBox([][]api.Point{ring(-9, -9, 30, -9, 30, 30, -9, 30)}, api.NonZero, pt(0, 0), pt(7, 5)); !reflect.DeepEqual(f, rat(35, 1)) {
		t.Error("a box inside", f)
	}
}

// TestCrowdedBoxes: boxes that are split because many edges meet in them, down to a unit.
func TestCrowdedBoxes(t *testing.T) {
	r := rand.New(rand.NewSource(4))
	var fan [][]api.Point // many triangles around one point
	for range 9 {
		fan = append(fan, ring(5, 5, r.Intn(40)-20, r.Intn(40)-20, r.Intn(40)-20, r.Intn(40)-20))
	}
	for range 12 {
		var l [][]api.Point
		for range 12 {
			l = append(l, polygon.ConvexHull([]api.Point{pt(r.Intn(20), r.Intn(20)), pt(r.Intn(20), r.Intn(20)), pt(r.Intn(20), r.Intn(20)), pt(r.Intn(20), r.Intn(20))}))
		}
		for _, polygons := range [][][]api.Point{l, fan} {
			a := pt(r.Intn(10), r.Intn(10))
			for _, b := range []api.Point{pt(a.X+1, a.Y+1), pt(a.X+3, a.Y+1), pt(a.X+1, a.Y+2), pt(a.X+9, a.Y+7)} {
				for rule := 1; rule <= 2; rule++ {
					if f, e := InBox(polygons, rule, a, b); e != api.OK || !reflect.DeepEqual(f, byBands(polygons, rule, a, b)) {
						t.Fatal("InBox", polygons, rule, a, b)
					}
				}
			}
		}
	}
	if f, e := InBox(fan, api.NonZero, pt(5, 5), pt(6, 6)); e != api.OK || !reflect.DeepEqual(f, byBands(fan, api.NonZero, pt(5, 5), pt(6, 6))) {
		t.Error("a unit in which many edges meet", f, e)
	}
}
