package polygon

import (
	"math"
	"math/rand"
	"slices"
	"testing"

	"grisaille/api"
	"grisaille/vec"
)

const most = api.MaxCoord

func pt(x, y int) api.Point { return api.Point{X: x, Y: y} }

func ring(l ...int) []api.Point {
	var r []api.Point
	for i := 0; i < len(l); i += 2 {
		r = append(r, pt(l[i], l[i+1]))
	}
	return r
}

func random(r *rand.Rand, n, size int) []api.Point {
	l := make([]api.Point, n)
	for i := range l {
		l[i] = pt(r.Intn(2*size+1)-size, r.Intn(2*size+1)-size)
	}
	return l
}

var square = ring(0, 0, 256, 0, 256, 256, 0, 256)

func many(n int) []api.Point { return slices.Repeat(ring(1, 1), n) }

func TestP16_1Rings(t *testing.T) {
	if !Valid(nil) || !Valid([][]api.Point{nil, square}) || !Valid([][]api.Point{many(4000), many(96)}) || Valid([][]api.Point{many(4000), many(97)}) {
		t.Error("Valid")
	}
	for _, p := range []api.Point{pt(most+1, 0), pt(0, -most-1), pt(math.MinInt, 0)} {
		if Valid([][]api.Point{square, {pt(0, 0), p}}) || DoubleArea(append(slices.Clone(square), p)) != 0 || len(Orient(append(slices.Clone(square), p))) != 0 {
			t.Error("an invalid point", p)
		}
	}
	lines := []api.Polyline{{Points: square[:2], Closed: true}, {Points: square[:3]}, {}, {Points: square, Closed: true}}
	if l := FromPolylines(lines); len(l) != 2 || !slices.Equal(l[0], square[:3]) || !slices.Equal(l[1], square) {
		t.Error("FromPolylines", l)
	} else if l[1][0].X = 9; square[0].X != 0 {
		t.Error("FromPolylines shares memory with its argument")
	}
	if DoubleArea(square) != 131072 || DoubleArea(Reverse(square)) != -131072 || DoubleArea(nil) != 0 || DoubleArea(square[:2]) != 0 {
		t.Error("DoubleArea")
	}
	big := ring(-most, -most, most, -most, most, most, -most, most)
	if DoubleArea(big) != 8*most*most || DoubleArea(many(4097)) != 0 {
		t.Error("DoubleArea of the largest square")
	}
	if l := Orient(square); !slices.Equal(l, square) {
		t.Error("Orient", l)
	} else if l[0].X = 9; square[0].X != 0 {
		t.Error("Orient shares memory with its argument")
	}
	if l := Orient(ring(0, 0, 0, 5, 5, 5)); !slices.Equal(l, ring(0, 0, 5, 5, 0, 5)) {
		t.Error("Orient of a negative area", l)
	}
	if len(Orient(ring(0, 0, 2, 2, 4, 4))) != 0 || len(Orient(nil)) != 0 {
		t.Error("Orient of no area")
	}
	r := rand.New(rand.NewSource(1))
	for range 500 {
		l := random(r, r.Intn(6), 9)
		sum := 0
		for i, p := range l {
			q := l[(i+1)%len(l)]
			sum += p.X*q.Y - p.Y*q.X
		}
		if DoubleArea(l) != sum {
			t.Fatal("DoubleArea", l)
		}
	}
}

func TestP16_2Bounds(t *testing.T) {
	l := [][]api.Point{nil, ring(5, -7), ring(-300, 3, 260, 512)}
	if low, high, ok := Bounds(l); low != pt(-300, -7) || high != pt(260, 512) || !ok {
		t.Error("Bounds", low, high, ok)
	}
	if r := PixelBounds(l); r != (api.Rect{X0: -2, Y0: -1, X1: 2, Y1: 2}) {
		t.Error("PixelBounds", r)
	}
	if r := PixelBounds([][]api.Point{ring(-most, -most, most, most)}); r != (api.Rect{X0: -4096, Y0: -4096, X1: 4096, Y1: 4096}) {
		t.Error("the largest PixelBounds", r)
	}
	if r := PixelBounds([][]api.Point{ring(1, 1)}); r != (api.Rect{X1: 1, Y1: 1}) {
		t.Error("PixelBounds of a point within a pixel", r)
	}
	for _, bad := range [][][]api.Point{nil, {nil}, {ring(most+1, 0)}} {
		if low, high, ok := Bounds(bad); low != pt(0, 0) || high != pt(0, 0) || ok || PixelBounds(bad) != (api.Rect{}) {
			t.Error("Bounds of", bad)
		}
	}
	for _, line := range [][]api.Point{ring(256, 0, 256, 900), ring(3, 512, 900, 512), ring(0, 0)} {
		if r := PixelBounds([][]api.Point{line}); r != (api.Rect{}) {
			t.Error("a line between pixels", line, r)
		}
	}
}

// angleWinding is an oracle for points on no edge: how often the ring turns around the point.
func angleWinding(l []api.Point, p api.Point) int {
	turn := 0.0
	for i, a := range l {
		b := l[(i+1)%len(l)]
		ux, uy, vx, vy := float64(a.X-p.X), float64(a.Y-p.Y), float64(b.X-p.X), float64(b.Y-p.Y)
		turn += math.Atan2(ux*vy-uy*vx, ux*vx+uy*vy)
	}
	return int(math.Round(turn / (2 * math.Pi)))
}

func onEdge(l []api.Point, p api.Point) bool {
	for i, a := range l {
		if vec.OnSegment(a, l[(i+1)%len(l)], p) {
			return true
		}
	}
	return false
}

func TestP16_3P16_4Winding(t *testing.T) {
	one := [][]api.Point{square}
	for p, want := range map[api.Point]int{pt(0, 0): 1, pt(255, 255): 1, pt(256, 0): 0, pt(0, 256): 0, pt(256, 256): 0, pt(-1, 0): 0, pt(0, -1): 0, pt(100, 0): 1, pt(0, 100): 1, pt(256, 100): 0} {
		if n := WindingNumber(one, p); n != want {
			t.Error("WindingNumber", p, n)
		}
		if n := WindingNumber([][]api.Point{Reverse(square)}, p); n != -want {
			t.Error("WindingNumber of the reversed square", p, n)
		}
		if n := WindingNumber([][]api.Point{square, square, nil}, p); n != 2*want {
			t.Error("WindingNumber of two squares", p, n)
		}
	}
	if WindingNumber([][]api.Point{square, ring(most+1, 0)}, pt(1, 1)) != 0 || WindingNumber([][]api.Point{ring(-most, -most, most, -most, 0, most)}, pt(0, most+1)) != 0 {
		t.Error("invalid arguments")
	}
	for n, want := range map[int][2]bool{0: {false, false}, 1: {true, true}, -1: {true, true}, 2: {true, false}, -3: {true, true}, math.MinInt: {true, false}} {
		if Fills(n, api.NonZero) != want[0] || Fills(n, api.EvenOdd) != want[1] || Fills(n, 0) || Fills(n, 3) || Fills(n, -1) {
			t.Error("Fills", n)
		}
	}
	r := rand.New(rand.NewSource(2))
	for range 5000 {
		l := random(r, 3+r.Intn(6), 6)
		p := random(r, 1, 7)[0]
		n := WindingNumber([][]api.Point{l}, p)
		if !onEdge(l, p) && n != angleWinding(l, p) {
			t.Fatal("WindingNumber", l, p, n)
		}
		k := r.Intn(len(l))
		if turned := slices.Concat(l[k:], l[:k]); WindingNumber([][]api.Point{turned}, p) != n {
			t.Fatal("another first point", l, p)
		}
		if WindingNumber([][]api.Point{Reverse(l)}, p) != -n {
			t.Fatal("a reversed ring", l, p)
		}
		for _, rule := range []int{api.NonZero, api.EvenOdd, 0} {
			if Contains([][]api.Point{l}, rule, p) != Fills(n, rule) {
				t.Fatal("Contains", l, p, rule)
			}
		}
	}
	if l := Translate([][]api.Point{square[:2], nil, ring(-5, 7)}, pt(3, -4)); len(l) != 3 || !slices.Equal(l[0], ring(3, -4, 259, -4)) || len(l[1]) != 0 || !slices.Equal(l[2], ring(-2, 3)) {
		t.Error("Translate", l)
	}
	if l := Translate([][]api.Point{ring(most, 0)}, pt(math.MaxInt, math.MinInt)); !slices.Equal(l[0], ring(2*most, -most)) {
		t.Error("Translate clamps its vector and not the result", l)
	}
	if len(Translate([][]api.Point{square, ring(most+1, 0)}, pt(0, 0))) != 0 {
		t.Error("Translate of invalid rings")
	}
}

// slowSimplify is the chapter's step, to the letter.
func slowSimplify(l []api.Point) []api.Point {
	l = slices.Clone(l)
	for changed := true; changed; {
		changed = false
		for i := range l {
			n := len(l)
			if vec.Orientation(l[(i+n-1)%n], l[i], l[(i+1)%n]) == 0 {
				l, changed = slices.Delete(l, i, i+1), true
				break
			}
		}
	}
	if len(l) < 3 {
		return nil
	}
	return l
}

func TestP16_5P16_7ReverseAndSimplify(t *testing.T) {
	if l := Reverse(ring(1, 1, 2, 2, 3, 3)); !slices.Equal(l, ring(1, 1, 3, 3, 2, 2)) || len(Reverse(nil)) != 0 || !slices.Equal(Reverse(ring(most+9, 1)), ring(most+9, 1)) {
		t.Error("Reverse", l)
	}
	if len(Simplify(append(slices.Clone(square), pt(most+1, 0)))) != 0 || len(Simplify(ring(0, 0, 5, 5))) != 0 || len(Simplify(nil)) != 0 || len(Simplify(many(9))) != 0 {
		t.Error("Simplify to nothing")
	}
	r := rand.New(rand.NewSource(3))
	for range 5000 {
		l := random(r, r.Intn(9), 2)
		got := Simplify(l)
		if !slices.Equal(got, slowSimplify(l)) {
			t.Fatal("Simplify", l, got)
		}
		if DoubleArea(got) != DoubleArea(l) || !slices.Equal(Simplify(got), got) {
			t.Fatal("the area, or a second time", l)
		}
		p := random(r, 1, 3)[0]
		if WindingNumber([][]api.Point{got}, p) != WindingNumber([][]api.Point{l}, p) {
			t.Fatal("a winding number", l, p)
		}
	}
}

// slowConvex is the chapter's definition, to the letter.
func slowConvex(l []api.Point) bool {
	for _, sign := range []int{1, -1} {
		all := len(l) >= 3
		for i, a := range l {
			j := (i + 1) % len(l)
			for k, p := range l {
				if k != i && k != j && vec.Orientation(a, l[j], p) != sign {
					all = false
				}
			}
		}
		if all {
			return true
		}
	}
	return false
}

func TestP16_6P16_7Convexity(t *testing.T) {
	star := ring(0, -9, 5, 8, -9, -3, 9, -3, -5, 8) // every corner turns the same way
	if !IsConvex(square) || !IsConvex(Reverse(square)) || IsConvex(square[:2]) || IsConvex(star) || IsConvex(ring(0, 0, 1, 0, 2, 0, 2, 2)) || IsConvex(ring(0, 0, 1, 0, most+1, 5)) {
		t.Error("IsConvex")
	}
	if l := ConvexHull(append(slices.Clone(star), pt(0, 0), pt(0, -9))); !slices.Equal(l, ring(0, -9, 9, -3, 5, 8, -5, 8, -9, -3)) {
		t.Error("ConvexHull", l)
	}
	for _, l := range [][]api.Point{nil, ring(1, 1), ring(1, 1, 1, 1), ring(0, 0, 1, 1, 3, 3, 2, 2), ring(0, 0, 4, 0, most+1, 4), slices.Concat(many(4094), square)} {
		if h := ConvexHull(l); len(h) != 0 {
			t.Error("ConvexHull", h)
		}
	}
	r := rand.New(rand.NewSource(4))
	for range 5000 {
		l := random(r, r.Intn(10), 3)
		if IsConvex(l) != slowConvex(l) {
			t.Fatal("IsConvex", l)
		}
		h := ConvexHull(l)
		if len(h) == 0 {
			for _, a := range l {
				for _, b := range l {
					for _, c := range l {
						if vec.Orientation(a, b, c) != 0 {
							t.Fatal("points that are not on a line", l)
						}
					}
				}
			}
			continue
		}
		if !IsConvex(h) || DoubleArea(h) <= 0 {
			t.Fatal("ConvexHull", l, h)
		}
		for i, a := range h {
			if !slices.Contains(l, a) || i > 0 && !vec.Less(h[0], a) {
				t.Fatal("the vertices of a hull", l, h)
			}
			for _, p := range l {
				if vec.Orientation(a, h[(i+1)%len(h)], p) < 0 {
					t.Fatal("a point outside of the hull", l, h, p)
				}
			}
		}
	}
}
