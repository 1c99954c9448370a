package region

import (
	"math/rand"
	"slices"
	"testing"

	"grisaille/api"
	"grisaille/rect"
)

func r4(x0, y0, x1, y1 int) api.Rect { return api.Rect{X0: x0, Y0: y0, X1: x1, Y1: y1} }

const side0, size = -3, 9 // the oracle's grid: size by size pixels from (side0, side0) on

type grid [size][size]bool

func fill(l []api.Rect) grid {
	var g grid
	for y := range size {
		for x := range size {
			for _, r := range l {
				if r.X1 <= 4096 && r.X0 <= x+side0 && x+side0 < r.X1 && r.Y0 <= y+side0 && y+side0 < r.Y1 {
					g[y][x] = true
				}
			}
		}
	}
	return g
}

// region is the oracle of the canonical form: rows of runs, then equal rows joined.
func (g grid) region() []api.Rect {
	var l, band []api.Rect
	for y := range size {
		var row []api.Rect
		for x := 0; x < size; x++ {
			if !g[y][x] {
				continue
			}
			x0 := x
			for x < size && g[y][x] {
				x++
			}
			row = append(row, r4(x0+side0, y+side0, x+side0, y+side0+1))
		}
		same := len(row) == len(band) && len(row) > 0
		for i := range row {
			same = same && row[i].X0 == band[i].X0 && row[i].X1 == band[i].X1
		}
		if same {
			for i := range band {
				l[len(l)-len(band)+i].Y1++
			}
			continue
		}
		l, band = append(l, row...), row
	}
	return l
}

func random(r *rand.Rand) []api.Rect {
	l := make([]api.Rect, r.Intn(6))
	for i := range l {
		x, y := side0+r.Intn(size), side0+r.Intn(size)
		l[i] = r4(x, y, min(x+r.Intn(5), side0+size), min(y+r.Intn(5), side0+size))
		if r.Intn(15) == 0 {
			l[i].X1 = 4097
		}
	}
	return l
}

func TestP10_1New(t *testing.T) {
	if l, e := New(r4(0, 0, 2, 1), r4(0, 1, 2, 2)); e != api.OK || !slices.Equal(l, []api.Rect{r4(0, 0, 2, 2)}) {
		t.Error("the chapter's example", l, e)
	}
	if l, e := New(); e != api.OK || len(l) != 0 {
		t.Error("no rectangles", l, e)
	}
	r := rand.New(rand.NewSource(1))
	for range 3000 {
		l := random(r)
		g := fill(l)
		want := g.region()
		got, e := New(l...)
		if e != api.OK || !slices.Equal(got, want) {
			t.Fatal("New", l, got, want)
		}
		if !IsCanonical(want) || IsCanonical(l) != slices.Equal(l, want) {
			t.Fatal("IsCanonical", l)
		}
		area, bounds := 0, api.Rect{}
		for y := range size {
			for x := range size {
				if g[y][x] {
					area++
					bounds = rect.Union(bounds, r4(x+side0, y+side0, x+side0+1, y+side0+1))
				}
				if Contains(l, x+side0, y+side0) != g[y][x] {
					t.Fatal("Contains", l, x, y)
				}
			}
		}
		if Area(l) != area || Bounds(l) != bounds {
			t.Fatal("Area or Bounds", l)
		}
		other := random(r)
		if r.Intn(3) == 0 {
			other = append(slices.Clone(want), api.Rect{})
		}
		if Equal(l, other) != (fill(other) == g) {
			t.Fatal("Equal", l, other)
		}
	}
}

// dots returns n pixels that do not touch.
func dots(n int) []api.Rect {
	var l []api.Rect
	for i := range n {
		l = append(l, r4(2*(i%40), 2*(i/40), 2*(i%40)+1, 2*(i/40)+1))
	}
	return l
}

func TestP10_1P10_2Limits(t *testing.T) {
	full := dots(1024)
	if l, e := New(full...); e != api.OK || len(l) != 1024 || !IsCanonical(full) {
		t.Error("1024 rectangles", e)
	}
	long := append(slices.Clone(full), full[0])
	if l, e := New(long...); e != api.ErrLimit || len(l) != 0 {
		t.Error("1025 rectangles", e)
	}
	if IsCanonical(dots(1025)) || Area(dots(1025)) != 1025 || !Equal(long, full) || !Contains(long, 2, 0) || Bounds(long) != Bounds(full) {
		t.Error("any slice of rectangles is accepted")
	}
	var bars []api.Rect // 40 columns crossed by 40 rows: more rectangles in the result than in the list
	for i := range 40 {
		bars = append(bars, r4(2*i, 0, 2*i+1, 80), r4(0, 2*i, 80, 2*i+1))
	}
	if _, e := New(bars...); e != api.ErrLimit {
		t.Error("a region of more than 1024 rectangles", e)
	}
	for name, op := range map[string]func(a, b []api.Rect) ([]api.Rect, api.Errno){"Union": Union, "Intersect": Intersect, "Subtract": Subtract} {
		if l, e := op(long, nil); e != api.ErrLimit || len(l) != 0 {
			t.Error(name, "of a long slice", e)
		}
		if l, e := op(nil, long); e != api.ErrLimit || len(l) != 0 {
			t.Error(name, "with a long slice", e)
		}
	}
	if _, e := Union(full, []api.Rect{r4(0, 90, 1, 91)}); e != api.ErrLimit {
		t.Error("a union of more than 1024 rectangles", e)
	}
	if l, e := Union(full, []api.Rect{r4(1, 0, 2, 1)}); e != api.OK || len(l) != 1023 {
		t.Error("a union that fills a gap", e, len(l))
	}
	if _, e := Subtract([]api.Rect{r4(0, 0, 80, 80)}, full); e != api.ErrLimit {
		t.Error("a difference of more than 1024 rectangles", e)
	}
	columns, rows := bars[:0:0], bars[:0:0]
	for i, b := range bars {
		if i%2 == 0 {
			columns = append(columns, b)
		} else {
			rows = append(rows, b)
		}
	}
	if _, e := Intersect(columns, rows); e != api.ErrLimit {
		t.Error("an intersection of more than 1024 rectangles", e)
	}
	if _, e := Components(long); e != api.ErrLimit {
		t.Error("Components", e)
	}
	if _, e := Outline(long); e != api.ErrLimit {
		t.Error("Outline", e)
	}
}

func TestP10_2P10_4Operations(t *testing.T) {
	r := rand.New(rand.NewSource(2))
	for range 3000 {
		a, b := random(r), random(r)
		before := append(slices.Clone(a), b...)
		var or, and, not grid
		f, g := fill(a), fill(b)
		for y := range size {
			for x := range size {
				or[y][x], and[y][x], not[y][x] = f[y][x] || g[y][x], f[y][x] && g[y][x], f[y][x] && !g[y][x]
			}
		}
		if l, e := Union(a, b); e != api.OK || !slices.Equal(l, or.region()) {
			t.Fatal("Union", a, b, l)
		}
		if l, e := Intersect(a, b); e != api.OK || !slices.Equal(l, and.region()) {
			t.Fatal("Intersect", a, b, l)
		}
		if l, e := Subtract(a, b); e != api.OK || !slices.Equal(l, not.region()) {
			t.Fatal("Subtract", a, b, l)
		}
		if !slices.Equal(before, append(slices.Clone(a), b...)) {
			t.Fatal("an argument was modified")
		}
	}
}

func TestP10_3TilesTouched(t *testing.T) {
	r := rand.New(rand.NewSource(3))
	for range 3000 {
		l := random(r)
		page := r4(side0+r.Intn(4), side0+r.Intn(4), side0+3+r.Intn(7), side0+3+r.Intn(7))
		w, h := r.Intn(5), r.Intn(5)
		var want []int
		i := 0
		for tile := range rect.Tiles(page, w, h) {
			if slices.ContainsFunc(l, func(p api.Rect) bool { return !rect.Empty(rect.Intersect(p, tile)) }) {
				want = append(want, i)
			}
			i++
		}
		if got := TilesTouched(l, page, w, h); !slices.Equal(got, want) {
			t.Fatal("TilesTouched", l, page, w, h, got, want)
		}
	}
	if len(TilesTouched([]api.Rect{r4(0, 0, 1, 1)}, r4(0, 0, 4097, 1), 1, 1)) != 0 {
		t.Error("an invalid page has no tiles")
	}
}

// flood returns the component of the grid that contains the pixel.
func (g *grid) flood(x, y int, c *grid) {
	if x < 0 || y < 0 || x >= size || y >= size || !g[y][x] || c[y][x] {
		return
	}
	c[y][x] = true
	g.flood(x-1, y, c)
	g.flood(x+1, y, c)
	g.flood(x, y-1, c)
	g.flood(x, y+1, c)
}

func TestP10_5P10_7Components(t *testing.T) {
	r := rand.New(rand.NewSource(4))
	for range 3000 {
		l := random(r)
		g := fill(l)
		var want [][]api.Rect
		var seen grid
		for y := range size {
			for x := range size {
				if g[y][x] && !seen[y][x] {
					var c grid
					g.flood(x, y, &c)
					want = append(want, c.region())
					for i := range size {
						for j := range size {
							seen[i][j] = seen[i][j] || c[i][j]
						}
					}
				}
			}
		}
		got, e := Components(l)
		if e != api.OK || !slices.EqualFunc(got, want, slices.Equal[[]api.Rect]) {
			t.Fatal("Components", l, got, want)
		}
	}
}

type edge struct{ from, to api.Point }

// unitEdges returns the directed edges of pixels whose other side is empty.
func (g grid) unitEdges() map[edge]bool {
	edges := map[edge]bool{}
	at := func(x, y int) bool { return x >= 0 && y >= 0 && x < size && y < size && g[y][x] }
	p := func(x, y int) api.Point { return api.Point{X: (x + side0) * 256, Y: (y + side0) * 256} }
	for y := range size {
		for x := range size {
			if !g[y][x] {
				continue
			}
			if !at(x, y-1) {
				edges[edge{p(x, y), p(x+1, y)}] = true
			}
			if !at(x+1, y) {
				edges[edge{p(x+1, y), p(x+1, y+1)}] = true
			}
			if !at(x, y+1) {
				edges[edge{p(x+1, y+1), p(x, y+1)}] = true
			}
			if !at(x-1, y) {
				edges[edge{p(x, y+1), p(x, y)}] = true
			}
		}
	}
	return edges
}

func step(a, b api.Point) api.Point {
	sign := func(n int) int { return max(-256, min(n, 256)) }
	return api.Point{X: sign(b.X - a.X), Y: sign(b.Y - a.Y)}
}

func TestP10_6P10_7Outline(t *testing.T) {
	diagonal, _ := Outline([]api.Rect{r4(0, 0, 1, 1), r4(1, 1, 2, 2)})
	if len(diagonal) != 2 || len(diagonal[0]) != 4 || diagonal[1][0] != (api.Point{X: 256, Y: 256}) {
		t.Error("pixels that touch diagonally have rings of their own", diagonal)
	}
	r := rand.New(rand.NewSource(5))
	for range 3000 {
		l := random(r)
		g := fill(l)
		rings, e := Outline(l)
		if e != api.OK {
			t.Fatal(e)
		}
		edges := g.unitEdges()
		area := 0
		var lastFirst api.Point
		for n, ring := range rings {
			if n > 0 && comparePoints(lastFirst, ring[0]) >= 0 {
				t.Fatal("the order of the rings", l, rings)
			}
			lastFirst = ring[0]
			for i, a := range ring {
				b, c := ring[(i+1)%len(ring)], ring[(i+2)%len(ring)]
				area += a.X*b.Y - a.Y*b.X
				u, v := step(a, b), step(b, c)
				if u.X*v.X+u.Y*v.Y != 0 || i > 0 && comparePoints(ring[0], a) >= 0 {
					t.Fatal("a point without a turn, or a wrong first point", l, ring)
				}
				// At a diagonal touch both turns are possible; the clockwise one stays at the pixel.
				clockwise := api.Point{X: b.X - u.Y, Y: b.Y + u.X}
				if fill(l).unitEdges()[edge{b, clockwise}] && u.X*v.Y-u.Y*v.X < 0 {
					t.Fatal("the ring leaves its pixel", l, ring, b)
				}
				for p := a; p != b; p = (api.Point{X: p.X + u.X, Y: p.Y + u.Y}) {
					next := api.Point{X: p.X + u.X, Y: p.Y + u.Y}
					if !edges[edge{p, next}] {
						t.Fatal("not an edge, or twice", l, p, next)
					}
					delete(edges, edge{p, next})
				}
			}
		}
		if len(edges) > 0 || area != 2*65536*Area(l) {
			t.Fatal("edges are missing, or the area is wrong", l, edges, area)
		}
	}
}
