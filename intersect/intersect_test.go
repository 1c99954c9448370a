package intersect

import (
	"cmp"
	"math"
	"math/rand"
	"reflect"
	"slices"
	"testing"

	"grisaille/api"
	"grisaille/rational"
	"grisaille/vec"
)

const most = api.MaxCoord

func pt(x, y int) api.Point { return api.Point{X: x, Y: y} }

func rat(n, d int) api.Rat {
	f, _ := rational.FromInts(n, d)
	return f
}

func ring(l ...int) []api.Point {
	var r []api.Point
	for i := 0; i < len(l); i += 2 {
		r = append(r, pt(l[i], l[i+1]))
	}
	return r
}

func random(r *rand.Rand, size int) api.Point {
	return pt(r.Intn(2*size+1)-size, r.Intn(2*size+1)-size)
}

func TestP17_1Edges(t *testing.T) {
	l := [][]api.Point{ring(0, 0, 4, 0, 4, 0, 0, 5), nil, ring(7, 7), ring(1, 1, 2, 2), ring(3, 3, 3, 3)}
	want := []api.Point{pt(0, 0), pt(4, 0), pt(4, 0), pt(0, 5), pt(0, 5), pt(0, 0), pt(1, 1), pt(2, 2), pt(2, 2), pt(1, 1)}
	edges := Edges(l)
	for range 2 {
		var got []api.Point
		for a, b := range edges {
			got = append(got, a, b)
		}
		if !slices.Equal(got, want) {
			t.Error("Edges", got)
		}
	}
	n := 0
	for range edges {
		if n++; n == 3 {
			break
		}
	}
	if n != 3 {
		t.Error("stopping early", n)
	}
	for range Edges([][]api.Point{ring(0, 0, 4, 0, most+1, 0)}) {
		t.Error("an edge of polygons that are not valid")
	}
}

// onBoth is an oracle of the count: the common points of two segments on a grid of the given resolution.
func onBoth(a, b, c, d api.Point, x, y api.Rat) bool {
	on := func(a, b api.Point) bool {
		u := rational.Mul(rational.Sub(x, rational.FromInt(a.X)), rational.FromInt(b.Y-a.Y))
		v := rational.Mul(rational.Sub(y, rational.FromInt(a.Y)), rational.FromInt(b.X-a.X))
		within := func(f api.Rat, m, n int) bool {
			return rational.Cmp(f, rational.FromInt(min(m, n))) >= 0 && rational.Cmp(f, rational.FromInt(max(m, n))) <= 0
		}
		return rational.Cmp(u, v) == 0 && within(x, a.X, b.X) && within(y, a.Y, b.Y)
	}
	return on(a, b) && on(c, d)
}

func TestP17_2P17_5Segments(t *testing.T) {
	for _, c := range []struct {
		a, b, c, d api.Point
		x, y       api.Rat
		n          int
	}{
		{pt(0, 0), pt(2, 2), pt(0, 2), pt(2, 0), rat(1, 1), rat(1, 1), 1}, {pt(0, 0), pt(3, 1), pt(0, 1), pt(3, 0), rat(3, 2), rat(1, 2), 1},
		{pt(0, 0), pt(4, 0), pt(4, 0), pt(9, 0), rat(4, 1), rat(0, 1), 1}, {pt(0, 0), pt(4, 0), pt(3, 0), pt(9, 0), api.Rat{}, api.Rat{}, 2}, {pt(0, 0), pt(4, 0), pt(5, 0), pt(9, 0), api.Rat{}, api.Rat{}, 0},
		{pt(0, 0), pt(4, 0), pt(0, 1), pt(4, 1), api.Rat{}, api.Rat{}, 0}, {pt(1, 1), pt(1, 1), pt(1, 1), pt(1, 1), rat(1, 1), rat(1, 1), 1}, {pt(1, 1), pt(1, 1), pt(1, 2), pt(1, 2), api.Rat{}, api.Rat{}, 0},
		{pt(1, 1), pt(1, 1), pt(0, 0), pt(2, 2), rat(1, 1), rat(1, 1), 1}, {pt(1, 1), pt(1, 1), pt(2, 2), pt(3, 3), api.Rat{}, api.Rat{}, 0}, {pt(1, 2), pt(1, 2), pt(0, 0), pt(3, 3), api.Rat{}, api.Rat{}, 0},
		{pt(0, 0), pt(0, 4), pt(0, 4), pt(0, 0), api.Rat{}, api.Rat{}, 2}, {pt(-most, -most), pt(most, most), pt(-most, most), pt(most, -most), rat(0, 1), rat(0, 1), 1},
		{pt(-most, -most), pt(most, most-1), pt(-most, most), pt(most, -most), rat(most, 4*most-1), rat(-most, 4*most-1), 1},
		{pt(0, 0), pt(most+1, 0), pt(1, -1), pt(1, 1), api.Rat{}, api.Rat{}, 0}, {pt(0, 0), pt(1, 0), pt(1, -1), pt(0, math.MinInt), api.Rat{}, api.Rat{}, 0},
	} {
		x, y, n := Segments(c.a, c.b, c.c, c.d)
		if n != c.n || !reflect.DeepEqual([]api.Rat{x, y}, []api.Rat{c.x, c.y}) {
			t.Error("Segments", c, x, y, n)
		}
	}
	r := rand.New(rand.NewSource(1))
	for range 5000 {
		a, b, c, d := random(r, 3), random(r, 3), random(r, 3), random(r, 3)
		x, y, n := Segments(a, b, c, d)
		if n == 1 && !onBoth(a, b, c, d, x, y) {
			t.Fatal("the point is not on both segments", a, b, c, d)
		}
		shared := 0 // common points with integer coordinates
		for i := -3; i <= 3; i++ {
			for j := -3; j <= 3; j++ {
				if vec.OnSegment(a, b, pt(i, j)) && vec.OnSegment(c, d, pt(i, j)) {
					shared++
				}
			}
		}
		properly := vec.Orientation(a, b, c)*vec.Orientation(a, b, d) < 0 && vec.Orientation(c, d, a)*vec.Orientation(c, d, b) < 0
		want := min(shared, 2)
		if properly {
			want = 1
		}
		if n != want {
			t.Fatal("the number of common points", a, b, c, d, n, want)
		}
		for _, s := range [][4]api.Point{{b, a, c, d}, {a, b, d, c}, {c, d, a, b}} {
			x2, y2, n2 := Segments(s[0], s[1], s[2], s[3])
			if n2 != n || !reflect.DeepEqual([]api.Rat{x, y}, []api.Rat{x2, y2}) {
				t.Fatal("exchanged or reversed segments", a, b, c, d)
			}
		}
	}
}

func TestP17_3At(t *testing.T) {
	zero := api.Rat{}
	for _, c := range []struct {
		a, b api.Point
		x    int
		want api.Rat
		ok   bool
	}{
		{pt(0, 0), pt(3, 1), 1, rat(1, 3), true}, {pt(3, 1), pt(0, 0), 1, rat(1, 3), true}, {pt(0, 0), pt(3, 1), 0, rat(0, 1), true}, {pt(0, 0), pt(3, 1), 3, rat(1, 1), true}, {pt(0, 0), pt(3, 1), 4, zero, false}, {pt(0, 0), pt(3, 1), -1, zero, false},
		{pt(1, 0), pt(1, 5), 1, zero, false}, {pt(0, 2), pt(4, 2), 3, rat(2, 1), true}, {pt(0, 0), pt(most+1, 5), 0, zero, false}, {pt(0, 0), pt(3, 1), math.MinInt, zero, false}, {pt(-most, -most), pt(most, most-1), most - 1, rat((2*most-1)*(2*most-1)-2*most*most, 2*most), true},
	} {
		if y, ok := YAt(c.a, c.b, c.x); ok != c.ok || !reflect.DeepEqual(y, c.want) {
			t.Error("YAt", c, y, ok)
		}
		flip := func(p api.Point) api.Point { return pt(p.Y, p.X) }
		double := rational.Mul(rational.FromInt(c.x), rational.FromInt(1))
		double.Num.Mag, double.Den.Mag = append(double.Num.Mag, 0), append(double.Den.Mag, 0) // not normalized
		if x, ok := XAt(flip(c.a), flip(c.b), double); ok != c.ok || !reflect.DeepEqual(x, c.want) {
			t.Error("XAt", c, x, ok)
		}
	}
	if x, ok := XAt(pt(0, 0), pt(1, 3), rat(1, 2)); !ok || !reflect.DeepEqual(x, rat(1, 6)) {
		t.Error("XAt between integers", x, ok)
	}
	if x, ok := XAt(pt(0, 0), pt(1, 3), rat(7, 2)); ok || !reflect.DeepEqual(x, zero) {
		t.Error("XAt outside", x, ok)
	}
}

func TestP17_4EventYs(t *testing.T) {
	bow := [][]api.Point{ring(0, 0, 3, 6, 3, 0, 0, 5)}
	got := EventYs(bow, pt(1, -1), pt(2, 6))
	want := []api.Rat{rat(-1, 1), rat(0, 1), rat(5, 3), rat(2, 1), rat(30, 11), rat(10, 3), rat(4, 1), rat(5, 1), rat(6, 1)}
	if !reflect.DeepEqual(got, want) {
		t.Error("EventYs", got)
	}
	if got := EventYs([][]api.Point{nil, ring(5, 3, 5, 3), {}, ring(8, 9)}, pt(0, 0), pt(1, 5)); !reflect.DeepEqual(got, []api.Rat{rat(0, 1), rat(3, 1), rat(5, 1)}) {
		t.Error("a vertex without an edge", got)
	}
	if got := EventYs([][]api.Point{ring(0, 0, 8, 0, 8, 8, 0, 8)}, pt(9, 0), pt(9, 8)); !reflect.DeepEqual(got, []api.Rat{rat(0, 1), rat(8, 1)}) {
		t.Error("nothing strictly between", got)
	}
	if got := EventYs([][]api.Point{ring(0, 3, 8, 3, 4, -9)}, pt(9, 0), pt(0, 8)); !reflect.DeepEqual(got, []api.Rat{rat(0, 1), rat(3, 1), rat(8, 1)}) {
		t.Error("a box without width", got)
	}
	for _, c := range []struct {
		l    [][]api.Point
		a, b api.Point
	}{{[][]api.Point{ring(most+1, 0)}, pt(0, 0), pt(1, 1)}, {bow, pt(most+1, 0), pt(1, 1)}, {bow, pt(0, 0), pt(1, most+1)}, {bow, pt(0, 1), pt(1, 1)}, {bow, pt(0, 2), pt(1, 1)}} {
		if got := EventYs(c.l, c.a, c.b); len(got) != 0 {
			t.Error("EventYs", c, got)
		}
	}
	r := rand.New(rand.NewSource(2))
	for range 500 {
		l := [][]api.Point{{random(r, 4), random(r, 4), random(r, 4), random(r, 4)}, {random(r, 4), random(r, 4), random(r, 4)}}
		a, b := random(r, 5), random(r, 5)
		got := EventYs(l, a, b)
		if a.Y >= b.Y {
			if len(got) != 0 {
				t.Fatal("a box without height", got)
			}
			continue
		}
		if want := slowEvents(l, a, b); !reflect.DeepEqual(got, want) {
			t.Fatal("EventYs", l, a, b, got, want)
		}
	}
}

// slowEvents is the chapter's definition, to the letter.
func slowEvents(l [][]api.Point, a, b api.Point) []api.Rat {
	all := []api.Rat{rational.FromInt(a.Y), rational.FromInt(b.Y)}
	var edges [][2]api.Point
	for p, q := range Edges(l) {
		edges = append(edges, [2]api.Point{p, q})
	}
	for _, ring := range l {
		for _, p := range ring {
			all = append(all, rational.FromInt(p.Y))
		}
	}
	for i, e := range edges {
		for _, x := range []int{a.X, b.X} {
			if y, ok := YAt(e[0], e[1], x); ok {
				all = append(all, y)
			}
		}
		for _, f := range edges[:i] {
			if _, y, n := Segments(e[0], e[1], f[0], f[1]); n == 1 {
				all = append(all, y)
			}
		}
	}
	all = slices.DeleteFunc(all, func(y api.Rat) bool {
		return rational.Cmp(y, rational.FromInt(a.Y)) < 0 || rational.Cmp(y, rational.FromInt(b.Y)) > 0
	})
	slices.SortFunc(all, rational.Cmp)
	return slices.CompactFunc(all, func(x, y api.Rat) bool { return rational.Cmp(x, y) == 0 })
}

func TestP17_6Intersections(t *testing.T) {
	points, owners := Intersections([][]api.Point{ring(0, 0, 2, 2, 2, 0, 0, 2)})
	if !reflect.DeepEqual(points, [][2]api.Rat{{rat(1, 1), rat(1, 1)}}) || !reflect.DeepEqual(owners, [][]int{{0, 2}}) {
		t.Error("the chapter's example", points, owners)
	}
	points, owners = Intersections([][]api.Point{ring(0, 0, 4, 0, 4, 4), nil, ring(1, -1, 1, -1, 1, 3, 9, 9), ring(4, 0, 9, 0)})
	// Edges: 0 (0,0)-(4,0), 1 (4,0)-(4,4), 2 (4,4)-(0,0), 3 (1,-1)-(1,3), 4 (1,3)-(9,9), 5 (9,9)-(1,-1), 6 (4,0)-(9,0), 7 (9,0)-(4,0)
	want := [][2]api.Rat{{rat(9, 5), rat(0, 1)}, {rat(4, 1), rat(0, 1)}, {rat(1, 1), rat(0, 1)}, {rat(1, 1), rat(1, 1)}, {rat(4, 1), rat(11, 4)}, {rat(9, 1), rat(9, 1)}}
	if len(points) < 4 || len(points) != len(owners) {
		t.Fatal("Intersections", points, owners, want)
	}
	for i, p := range points {
		if reflect.DeepEqual(p, [2]api.Rat{rat(4, 1), rat(0, 1)}) && !slices.Equal(owners[i], []int{0, 1, 6, 7}) {
			t.Error("all edges that contain the point, adjacent ones as well", owners[i])
		}
	}
	if points, owners := Intersections([][]api.Point{ring(0, 0, 2, 2, 2, 0, 0, 2), ring(most+1, 0)}); len(points)+len(owners) != 0 {
		t.Error("polygons that are not valid")
	}
	r := rand.New(rand.NewSource(3))
	for range 1000 {
		l := [][]api.Point{{random(r, 3), random(r, 3), random(r, 3), random(r, 3)}, {random(r, 3), random(r, 3), random(r, 3)}, {random(r, 3), random(r, 3)}}
		points, owners := Intersections(l)
		wantPoints, wantOwners, simple := slowIntersections(l)
		if len(points) != len(wantPoints) || len(points) > 0 && (!reflect.DeepEqual(points, wantPoints) || !reflect.DeepEqual(owners, wantOwners)) {
			t.Fatal("Intersections", l, points, owners, wantPoints, wantOwners)
		}
		if IsSimple(l) != simple {
			t.Fatal("IsSimple", l)
		}
	}
}

// slowIntersections is the chapter's definition of Intersections and IsSimple, to the letter.
func slowIntersections(l [][]api.Point) ([][2]api.Rat, [][]int, bool) {
	var edges [][2]api.Point
	var next []int // the edge that follows
	for _, ring := range l {
		first := len(edges)
		for a, b := range Edges([][]api.Point{ring}) {
			edges = append(edges, [2]api.Point{a, b})
			next = append(next, len(edges))
		}
		if len(edges) > first {
			next[len(next)-1] = first
		}
	}
	simple := true
	var points [][2]api.Rat
	for i, e := range edges {
		for j, f := range edges {
			if j >= i {
				continue
			}
			x, y, n := Segments(e[0], e[1], f[0], f[1])
			if next[i] == j || next[j] == i {
				simple = simple && n == 1
				continue
			}
			simple = simple && n == 0
			if n == 1 {
				points = append(points, [2]api.Rat{x, y})
			}
		}
	}
	slices.SortFunc(points, func(p, q [2]api.Rat) int { return cmp.Or(rational.Cmp(p[1], q[1]), rational.Cmp(p[0], q[0])) })
	points = slices.CompactFunc(points, func(p, q [2]api.Rat) bool { return reflect.DeepEqual(p, q) })
	var owners [][]int
	for _, p := range points {
		var all []int
		for i, e := range edges {
			if onBoth(e[0], e[1], e[0], e[1], p[0], p[1]) {
				all = append(all, i)
			}
		}
		owners = append(owners, all)
	}
	return points, owners, simple
}

func TestP17_7P17_8IsSimple(t *testing.T) {
	square := ring(0, 0, 4, 0, 4, 4, 0, 4)
	for name, c := range map[string]struct {
		l    [][]api.Point
		want bool
	}{
		"nothing": {nil, true}, "a square": {[][]api.Point{square}, true}, "a repeated point": {[][]api.Point{ring(0, 0, 4, 0, 4, 0, 4, 4)}, true}, "a point": {[][]api.Point{ring(1, 1)}, true}, "a bow": {[][]api.Point{ring(0, 0, 2, 2, 2, 0, 0, 2)}, false},
		"there and back": {[][]api.Point{ring(0, 0, 4, 0)}, false}, "a spike": {[][]api.Point{ring(0, 0, 4, 0, 2, 0, 2, 2)}, false}, "a hole": {[][]api.Point{square, ring(1, 1, 2, 1, 1, 2)}, true}, "a touching hole": {[][]api.Point{square, ring(0, 1, 2, 1, 1, 2)}, false},
		"an invalid point": {[][]api.Point{square, ring(most+1, 0)}, false}, "a vertex on a line": {[][]api.Point{ring(0, 0, 2, 0, 4, 0, 4, 4)}, true}, "overlapping edges": {[][]api.Point{square, ring(4, 1, 4, 2, 6, 2)}, false},
	} {
		if IsSimple(c.l) != c.want {
			t.Error("IsSimple:", name)
		}
	}
	r := rand.New(rand.NewSource(4))
	for range 500 {
		l := [][]api.Point{{random(r, 9), random(r, 9), random(r, 9), random(r, 9)}, {random(r, 9), random(r, 9), random(r, 9)}}
		points, _ := Intersections(l)
		if IsSimple(l) && len(points) > 0 {
			t.Fatal("simple polygons with an intersection", l)
		}
		var moved, reversed [][]api.Point
		for _, ring := range l {
			var m []api.Point
			for _, p := range ring {
				m = append(m, vec.Add(p, pt(100, -50)))
			}
			moved = append(moved, m)
			k := slices.Clone(ring)
			slices.Reverse(k)
			reversed = append(reversed, k)
		}
		if IsSimple(moved) != IsSimple(l) || IsSimple(reversed) != IsSimple(l) {
			t.Fatal("IsSimple of moved or reversed polygons", l)
		}
		movedPoints, _ := Intersections(moved)
		reversedPoints, _ := Intersections(reversed)
		if len(movedPoints) != len(points) || len(reversedPoints) != len(points) {
			t.Fatal("the number of intersections", l)
		}
		for i, p := range points {
			want := [2]api.Rat{rational.Add(p[0], rat(100, 1)), rational.Sub(p[1], rat(50, 1))}
			if !reflect.DeepEqual(movedPoints[i], want) || !reflect.DeepEqual(reversedPoints[i], p) {
				t.Fatal("translated intersections", l)
			}
		}
	}
}
