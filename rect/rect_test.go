package rect

import (
	"math"
	"math/rand"
	"slices"
	"testing"

	"grisaille/api"
)

func r4(x0, y0, x1, y1 int) api.Rect { return api.Rect{X0: x0, Y0: y0, X1: x1, Y1: y1} }

// small returns a rectangle near the origin, empty, reversed or invalid now and then.
func small(r *rand.Rand) api.Rect {
	a := r4(r.Intn(9)-4, r.Intn(9)-4, r.Intn(9)-4, r.Intn(9)-4)
	if r.Intn(12) == 0 {
		a.X1 = 4097
	}
	return a
}

// pixels is the oracle's form of a rectangle near the origin.
func pixels(r api.Rect) map[[2]int]bool {
	set := map[[2]int]bool{}
	if r.X1 > 4096 {
		return set
	}
	for x := r.X0; x < r.X1; x++ {
		for y := r.Y0; y < r.Y1; y++ {
			set[[2]int{x, y}] = true
		}
	}
	return set
}

// box returns the canonical bounding box of a set of pixels.
func box(set map[[2]int]bool) api.Rect {
	b, first := api.Rect{}, true
	for p := range set {
		if first {
			b, first = r4(p[0], p[1], p[0]+1, p[1]+1), false
		}
		b = r4(min(b.X0, p[0]), min(b.Y0, p[1]), max(b.X1, p[0]+1), max(b.Y1, p[1]+1))
	}
	return b
}

func TestP9_1Basics(t *testing.T) {
	m := api.MaxPixelCoord
	for _, c := range []struct {
		r            api.Rect
		valid, empty bool
	}{
		{r4(0, 0, 1, 1), true, false}, {r4(-m, -m, m, m), true, false}, {r4(-m-1, 0, 1, 1), false, true}, {r4(0, -m-1, 1, 1), false, true}, {r4(0, 0, m+1, 1), false, true},
		{r4(0, 0, 1, m+1), false, true}, {r4(0, 0, 0, 1), true, true}, {r4(0, 0, 1, 0), true, true}, {r4(2, 0, 1, 1), true, true}, {r4(math.MinInt, 0, math.MaxInt, 1), false, true}, {api.Rect{}, true, true},
	} {
		if Valid(c.r) != c.valid || Empty(c.r) != c.empty {
			t.Error("Valid or Empty", c)
		}
		want := c.r
		if c.empty {
			want = api.Rect{}
		}
		if Canonical(c.r) != want {
			t.Error("Canonical", c)
		}
	}
	if Area(r4(-m, -m, m, m)) != 4*m*m {
		t.Error("Area")
	}
	r := rand.New(rand.NewSource(1))
	for range 3000 {
		a, b := small(r), small(r)
		set, other := pixels(a), pixels(b)
		if Area(a) != len(set) {
			t.Fatal("Area", a)
		}
		index, within := 0, true
		for y := -5; y < 6; y++ {
			for x := -5; x < 6; x++ {
				in := set[[2]int{x, y}]
				within = within && (!in || other[[2]int{x, y}])
				want := -1
				if in {
					want = index
					index++
				}
				if Contains(a, x, y) != in || PixelIndex(a, x, y) != want {
					t.Fatal("Contains or PixelIndex", a, x, y)
				}
			}
		}
		if Within(a, b) != within {
			t.Fatal("Within", a, b)
		}
	}
	if PixelIndex(r4(0, 0, 2, 2), math.MaxInt, math.MinInt) != -1 {
		t.Error("PixelIndex far away")
	}
}

func TestP9_2IntersectUnionOutset(t *testing.T) {
	r := rand.New(rand.NewSource(2))
	for range 3000 {
		a, b := small(r), small(r)
		both, either := map[[2]int]bool{}, pixels(a)
		for p := range pixels(b) {
			if either[p] {
				both[p] = true
			}
			either[p] = true
		}
		if Intersect(a, b) != box(both) {
			t.Fatal("Intersect", a, b)
		}
		if Union(a, b) != box(either) {
			t.Fatal("Union", a, b)
		}
	}
	m := api.MaxPixelCoord
	for _, c := range []struct {
		r    api.Rect
		n    int
		want api.Rect
	}{
		{r4(1, 2, 3, 4), 2, r4(-1, 0, 5, 6)}, {r4(0, 0, 4, 6), -1, r4(1, 1, 3, 5)}, {r4(0, 0, 4, 6), -2, api.Rect{}}, {r4(0, 0, 4, 6), -9, api.Rect{}}, {api.Rect{}, 5, api.Rect{}}, {r4(3, 3, 3, 9), 5, api.Rect{}},
		{r4(0, 0, 1, 1), math.MaxInt, r4(-m, -m, m, m)}, {r4(0, 0, 1, 1), math.MinInt, api.Rect{}}, {r4(m-1, 0, m, 1), 3, r4(m-4, -3, m, 4)}, {r4(-m, -m, m, m), -m, api.Rect{}}, {r4(-m, -m, m, m), 1 - m, r4(-1, -1, 1, 1)},
		{r4(0, 0, m+1, 1), 1, api.Rect{}},
	} {
		if got := Outset(c.r, c.n); got != c.want {
			t.Error("Outset", c, got)
		}
	}
}

func TestP9_3P9_5Subtract(t *testing.T) {
	if l := Subtract(r4(0, 0, 4, 4), r4(1, 1, 2, 2)); !slices.Equal(l, []api.Rect{r4(0, 0, 4, 1), r4(0, 1, 1, 2), r4(2, 1, 4, 2), r4(0, 2, 4, 4)}) {
		t.Error("the chapter's example", l)
	}
	if l := Subtract(r4(0, 0, 4, 4), r4(4, 0, 5, 4)); !slices.Equal(l, []api.Rect{r4(0, 0, 4, 4)}) {
		t.Error("nothing in common", l)
	}
	if len(Subtract(r4(3, 0, 1, 1), r4(0, 0, 9, 9))) != 0 || len(Subtract(r4(1, 1, 2, 2), r4(0, 0, 9, 9))) != 0 {
		t.Error("nothing is left")
	}
	r := rand.New(rand.NewSource(3))
	for range 3000 {
		a, b := small(r), small(r)
		left := pixels(a)
		for p := range pixels(b) {
			delete(left, p)
		}
		for _, part := range Subtract(a, b) {
			if Empty(part) {
				t.Fatal("an empty part", a, b)
			}
			for p := range pixels(part) {
				if !left[p] {
					t.Fatal("a pixel too much or twice", a, b, p)
				}
				delete(left, p)
			}
		}
		if len(left) > 0 {
			t.Fatal("pixels are missing", a, b, left)
		}
	}
}

func TestP9_4P9_5Tiles(t *testing.T) {
	got := slices.Collect(Tiles(r4(1, 2, 6, 5), 2, 2))
	want := []api.Rect{r4(1, 2, 3, 4), r4(3, 2, 5, 4), r4(5, 2, 6, 4), r4(1, 4, 3, 5), r4(3, 4, 5, 5), r4(5, 4, 6, 5)}
	if !slices.Equal(got, want) {
		t.Error("Tiles", got)
	}
	if l := slices.Collect(Tiles(r4(1, 2, 6, 5), math.MaxInt, math.MaxInt)); !slices.Equal(l, []api.Rect{r4(1, 2, 6, 5)}) {
		t.Error("one large tile", l)
	}
	for _, c := range []struct {
		r    api.Rect
		w, h int
	}{{api.Rect{}, 1, 1}, {r4(0, 0, 4097, 1), 1, 1}, {r4(0, 0, 2, 2), 0, 1}, {r4(0, 0, 2, 2), 1, -1}, {r4(2, 2, 0, 0), 1, 1}} {
		if l := slices.Collect(Tiles(c.r, c.w, c.h)); len(l) != 0 {
			t.Error("Tiles of", c, l)
		}
	}
	tiles := Tiles(r4(0, 0, 9, 9), 3, 3)
	for range 2 {
		n := 0
		for range tiles {
			if n++; n == 4 {
				break
			}
		}
		if n != 4 {
			t.Error("stopping early and ranging again", n)
		}
	}
	if len(slices.Collect(tiles)) != 9 {
		t.Error("ranging after stopping")
	}
	r := rand.New(rand.NewSource(4))
	for range 500 {
		a := small(r)
		left := pixels(a)
		for tile := range Tiles(a, 1+r.Intn(4), 1+r.Intn(4)) {
			for p := range pixels(tile) {
				if !left[p] {
					t.Fatal("a pixel too much or twice", a, p)
				}
				delete(left, p)
			}
		}
		if len(left) > 0 {
			t.Fatal("pixels are missing", a)
		}
	}
}

func sizes(l ...int) []api.Point {
	var s []api.Point
	for i := 0; i < len(l); i += 2 {
		s = append(s, api.Point{X: l[i], Y: l[i+1]})
	}
	return s
}

func TestP9_6Pack(t *testing.T) {
	if l, ok := Pack(4, 3, sizes(2, 2, 3, 1, 2, 1)); !ok || !slices.Equal(l, []api.Rect{r4(0, 0, 2, 2), r4(0, 2, 3, 3), r4(2, 0, 4, 1)}) {
		t.Error("the chapter's example", l, ok)
	}
	if l, ok := Pack(5, 9, sizes(4, 1, 4, 2, 1, 2, 1, 1)); !ok || !slices.Equal(l, []api.Rect{r4(0, 0, 4, 1), r4(0, 1, 4, 3), r4(4, 1, 5, 3), r4(4, 0, 5, 1)}) {
		t.Error("the first shelf with room is taken", l, ok)
	}
	if l, ok := Pack(1, 1, nil); !ok || len(l) != 0 {
		t.Error("nothing to pack", l, ok)
	}
	many := slices.Repeat(sizes(1, 1), 1024)
	if l, ok := Pack(4096, 4096, many); !ok || len(l) != 1024 {
		t.Error("1024 sizes", ok)
	}
	if l, ok := Pack(4096, 1, sizes(4096, 1)); !ok || len(l) != 1 {
		t.Error("the largest width", l, ok)
	}
	for _, c := range []struct {
		w, h int
		s    []api.Point
	}{
		{4, 3, sizes(5, 1)}, {4, 3, sizes(1, 4)}, {4, 3, sizes(3, 2, 2, 2)}, {0, 3, nil}, {4, 0, nil}, {4097, 3, nil}, {4, 4097, nil}, {-1, 3, nil}, {4096, 4096, append(many, api.Point{X: 1, Y: 1})},
		{4, 3, sizes(0, 1)}, {4, 3, sizes(1, 0)}, {4, 3, sizes(1, -1)}, {4, 3, sizes(1, 1, 1, math.MaxInt)}, {4, 3, sizes(math.MinInt, 1)}, {4096, 4096, sizes(4097, 1)},
	} {
		if l, ok := Pack(c.w, c.h, c.s); ok || len(l) != 0 {
			t.Error("Pack", c.w, c.h, l)
		}
	}
}

func TestP9_7PackConsequences(t *testing.T) {
	r := rand.New(rand.NewSource(5))
	for range 500 {
		w, h := 1+r.Intn(12), 1+r.Intn(12)
		var s []api.Point
		for range r.Intn(7) {
			s = append(s, api.Point{X: 1 + r.Intn(5), Y: 1 + r.Intn(5)})
		}
		l, ok := Pack(w, h, s)
		if !ok {
			continue
		}
		for i, a := range l {
			if !Within(a, r4(0, 0, w, h)) || a.X1-a.X0 != s[i].X || a.Y1-a.Y0 != s[i].Y {
				t.Fatal("not on the page or of another size", w, h, s, l)
			}
			for _, b := range l[:i] {
				if !Empty(Intersect(a, b)) {
					t.Fatal("overlap", w, h, s, l)
				}
			}
			if first, _ := Pack(w, h, s[:i]); !slices.Equal(first, l[:i]) {
				t.Fatal("the first sizes alone", w, h, s)
			}
		}
		if taller, _ := Pack(w, h+3, s); !slices.Equal(taller, l) {
			t.Fatal("a taller page", w, h, s)
		}
	}
	for side := 1; side < 5; side++ {
		n := (11 / side) * (7 / side)
		square := api.Point{X: side, Y: side}
		if _, ok := Pack(11, 7, slices.Repeat([]api.Point{square}, n)); !ok {
			t.Error("squares that fit", side)
		}
		if _, ok := Pack(11, 7, slices.Repeat([]api.Point{square}, n+1)); ok {
			t.Error("a square too much", side)
		}
	}
}
