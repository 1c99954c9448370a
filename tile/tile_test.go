package tile

import (
	"math"
	"math/rand"
	"slices"
	"testing"

	"grisaille/api"
	"grisaille/bitmap"
	"grisaille/color"
	"grisaille/rect"
)

func r4(x0, y0, x1, y1 int) api.Rect { return api.Rect{X0: x0, Y0: y0, X1: x1, Y1: y1} }

func random(r *rand.Rand, bounds api.Rect) api.Bitmap {
	s, _ := bitmap.New(bounds, api.Pixel{})
	for i := range s.Pixels {
		s.Pixels[i] = color.Clamp(api.Pixel{R: uint8(r.Intn(256)), G: uint8(r.Intn(256)), A: uint8(r.Intn(256))})
	}
	return s
}

func isZero(s api.Bitmap) bool { return s.Bounds == api.Rect{} && len(s.Pixels) == 0 }

func TestP47_1Tilings(t *testing.T) {
	if Count(r4(0, 0, 5, 3), 2, 2) != 6 || Bounds(r4(0, 0, 5, 3), 2, 2, 5) != r4(4, 2, 5, 3) {
		t.Error("the chapter's example")
	}
	for _, c := range []struct {
		page api.Rect
		w, h int
		want int
	}{{r4(0, 0, 16, 16), 1, 1, 256}, {r4(0, 0, 257, 1), 1, 1, 0}, {r4(0, 0, 17, 16), 1, 1, 0}, {r4(-4096, -4096, 4096, 4096), 512, 512, 256}, {r4(-4096, -4096, 4096, 4096), 511, 512, 0}, {r4(0, 0, 5, 5), math.MaxInt, math.MaxInt, 1}, {r4(0, 0, 5, 5), 0, 1, 0}, {r4(0, 0, 5, 5), 1, -1, 0}, {r4(5, 5, 1, 1), 1, 1, 0}, {r4(0, 0, 4097, 1), 999, 1, 0}, {api.Rect{}, 1, 1, 0}} {
		if Count(c.page, c.w, c.h) != c.want || Valid(c.page, c.w, c.h) != (c.want > 0) {
			t.Error("Count or Valid", c, Count(c.page, c.w, c.h))
		}
		if c.want == 0 && (len(ZOrder(c.page, c.w, c.h)) != 0 || len(HilbertOrder(c.page, c.w, c.h)) != 0) {
			t.Error("an order of a tiling that is not valid", c)
		}
	}
	r := rand.New(rand.NewSource(1))
	for range 500 {
		page := r4(r.Intn(9)-5, r.Intn(9)-5, r.Intn(12), r.Intn(12))
		w, h := r.Intn(6), r.Intn(6)
		tiles := slices.Collect(rect.Tiles(page, w, h))
		if Count(page, w, h) != len(tiles) || Valid(page, w, h) != (len(tiles) > 0) {
			t.Fatal("Count", page, w, h)
		}
		for i, want := range tiles {
			if Bounds(page, w, h, i) != want {
				t.Fatal("Bounds", page, w, h, i)
			}
		}
		for _, i := range []int{-1, len(tiles), math.MinInt, math.MaxInt} {
			if Bounds(page, w, h, i) != (api.Rect{}) {
				t.Fatal("no such tile", page, w, h, i)
			}
		}
		for y := -6; y < 13; y++ {
			for x := -6; x < 13; x++ {
				if i := IndexAt(page, w, h, x, y); i != slices.IndexFunc(tiles, func(t api.Rect) bool { return rect.Contains(t, x, y) }) {
					t.Fatal("IndexAt", page, w, h, x, y, i)
				}
			}
		}
	}
	if IndexAt(r4(0, 0, 5, 5), 2, 2, math.MaxInt, 0) != -1 || IndexAt(r4(0, 0, 5, 5), 2, 2, 0, math.MinInt) != -1 {
		t.Error("IndexAt far away")
	}
}

func TestP47_2P47_4SplitAndAssemble(t *testing.T) {
	bad := api.Bitmap{Bounds: r4(0, 0, 1, 1)}
	r := rand.New(rand.NewSource(2))
	good := random(r, r4(0, 0, 17, 16))
	for name, c := range map[string]struct {
		s    api.Bitmap
		w, h int
		e    api.Errno
	}{"bitmap": {bad, 0, 0, api.ErrBitmap}, "width": {good, 0, 1, api.ErrArgument}, "height": {good, 1, -1, api.ErrArgument}, "too many": {good, 1, 1, api.ErrArgument}, "empty": {api.Bitmap{}, 1, 1, api.ErrArgument}} {
		if l, e := Split(c.s, c.w, c.h); e != c.e || len(l) != 0 {
			t.Error("Split:", name, e)
		}
	}
	one := random(r, r4(0, 0, 1, 1))
	two := random(r, r4(0, 0, 2, 1))
	for name, c := range map[string]struct {
		page api.Rect
		l    []api.Bitmap
		e    api.Errno
	}{
		"invalid": {r4(0, 0, 4097, 1), []api.Bitmap{bad}, api.ErrRange}, "empty": {r4(1, 1, 1, 1), []api.Bitmap{bad}, api.ErrRange}, "large": {r4(0, 0, 257, 256), []api.Bitmap{bad}, api.ErrLimit}, "bitmap": {r4(0, 0, 2, 1), []api.Bitmap{one, bad}, api.ErrBitmap}, "missing": {r4(0, 0, 2, 1), []api.Bitmap{one}, api.ErrNotFound}, "nothing": {r4(0, 0, 2, 1), nil, api.ErrNotFound},
		"twice": {r4(0, 0, 2, 1), []api.Bitmap{one, two}, api.ErrDuplicate}, "missing and twice": {r4(0, 0, 3, 1), []api.Bitmap{one, two}, api.ErrNotFound},
	} {
		if b, e := Assemble(c.page, c.l); e != c.e || !isZero(b) {
			t.Error("Assemble:", name, e)
		}
	}
	if b, e := Assemble(r4(0, 0, 1, 1), []api.Bitmap{two, random(r, r4(5, 5, 9, 9)), {}}); e != api.OK || len(b.Pixels) != 1 || b.Pixels[0] != two.Pixels[0] {
		t.Error("parts that reach beyond the page", b, e)
	}
	for range 300 {
		s := random(r, rect.Canonical(r4(r.Intn(5)-3, r.Intn(5)-3, 3+r.Intn(9), 3+r.Intn(9))))
		w, h := 1+r.Intn(6), 1+r.Intn(6)
		tiles, e := Split(s, w, h)
		if e != api.OK || len(tiles) != Count(s.Bounds, w, h) {
			t.Fatal("Split", e)
		}
		for i, b := range tiles {
			if want, _ := bitmap.Crop(s, Bounds(s.Bounds, w, h, i)); !bitmap.Equal(b, want) || len(b.Pixels) != cap(b.Pixels) {
				t.Fatal("Split", i)
			}
		}
		r.Shuffle(len(tiles), func(i, j int) { tiles[i], tiles[j] = tiles[j], tiles[i] })
		if b, e := Assemble(s.Bounds, tiles); e != api.OK || !bitmap.Equal(b, s) {
			t.Fatal("Assemble of Split", e)
		}
	}
}

func TestP47_3Shuffle(t *testing.T) {
	for _, seed := range []uint64{0, 1, 12345, math.MaxUint64} {
		for _, n := range []int{0, 1, 2, 7, 256} {
			want := make([]int, n)
			for i := range want {
				want[i] = i
			}
			x := seed
			for i := n - 1; i > 0; i-- {
				x = x*6364136223846793005 + 1442695040888963407
				j := int((x >> 33) % uint64(i+1))
				want[i], want[j] = want[j], want[i]
			}
			if got := Shuffle(n, seed); !slices.Equal(got, want) {
				t.Error("Shuffle", n, seed, got)
			}
		}
	}
	if len(Shuffle(257, 3)) != 256 || len(Shuffle(math.MaxInt, 3)) != 256 || len(Shuffle(-1, 3)) != 0 || len(Shuffle(math.MinInt, 3)) != 0 {
		t.Error("Shuffle clamps n")
	}
}

func TestP47_5P47_7ZOrder(t *testing.T) {
	if l := ZOrder(r4(0, 0, 4, 4), 2, 2); !slices.Equal(l, []int{0, 1, 2, 3}) {
		t.Error("the chapter's example", l)
	}
	if l := ZOrder(r4(0, 0, 4, 3), 1, 1); !slices.Equal(l, []int{0, 1, 4, 5, 2, 3, 6, 7, 8, 9, 10, 11}) {
		t.Error("ZOrder", l)
	}
	if l := ZOrder(r4(0, 0, 256, 1), 1, 1); !slices.IsSorted(l) || len(l) != 256 {
		t.Error("one row", l)
	}
	if l := ZOrder(r4(0, 0, 2, 128), 1, 1); !slices.IsSorted(l) || len(l) != 256 {
		t.Error("two columns", l)
	}
}

func TestP47_5MortonCodes(t *testing.T) {
	for columns := 1; columns <= 40; columns++ {
		for rows := 1; columns*rows <= 256 && rows <= 40; rows++ {
			code := func(i int) int {
				c, r, sum := i%columns, i/columns, 0
				for k := range 8 {
					sum += (c>>k%2)<<(2*k) + (r>>k%2)<<(2*k+1)
				}
				return sum
			}
			l := ZOrder(r4(3, -9, 3+2*columns, -9+3*rows), 2, 3)
			for i := 1; i < len(l); i++ {
				if code(l[i-1]) >= code(l[i]) {
					t.Fatal("ZOrder", columns, rows, l)
				}
			}
			if len(l) != columns*rows {
				t.Fatal("ZOrder", columns, rows, l)
			}
		}
	}
}

// slowHilbert is the chapter's definition, cell by cell.
func slowHilbert(order int) [][2]int {
	if order == 0 {
		return [][2]int{{0, 0}}
	}
	small := slowHilbert(order - 1)
	n := 1 << (order - 1)
	var l [][2]int
	for _, k := range small {
		l = append(l, [2]int{k[1], k[0]})
	}
	for _, k := range small {
		l = append(l, [2]int{k[0], k[1] + n})
	}
	for _, k := range small {
		l = append(l, [2]int{k[0] + n, k[1] + n})
	}
	for _, k := range small {
		l = append(l, [2]int{2*n - 1 - k[1], n - 1 - k[0]})
	}
	return l
}

func TestP47_6P47_7HilbertOrder(t *testing.T) {
	if l := HilbertOrder(r4(0, 0, 4, 4), 2, 2); !slices.Equal(l, []int{0, 2, 3, 1}) {
		t.Error("the chapter's example", l)
	}
	for columns := 1; columns <= 40; columns++ {
		for rows := 1; columns*rows <= 256 && rows <= 40; rows++ {
			order := 0
			for 1<<order < max(columns, rows) {
				order++
			}
			var want []int
			for _, k := range slowHilbert(order) {
				if k[0] < columns && k[1] < rows {
					want = append(want, k[1]*columns+k[0])
				}
			}
			page := r4(-7, 3, -7+3*columns, 3+2*rows-1)
			got := HilbertOrder(page, 3, 2)
			if !slices.Equal(got, want) {
				t.Fatal("HilbertOrder", columns, rows)
			}
			for _, l := range [][]int{slices.Clone(got), ZOrder(page, 3, 2)} {
				slices.Sort(l)
				for i, n := range l {
					if i != n || len(l) != columns*rows {
						t.Fatal("not a permutation", columns, rows)
					}
				}
			}
			if columns == rows && columns&(columns-1) == 0 {
				for i := 1; i < len(got); i++ {
					dx, dy := got[i]%columns-got[i-1]%columns, got[i]/columns-got[i-1]/columns
					if dx*dx+dy*dy != 1 {
						t.Fatal("consecutive tiles without a common side", columns, i)
					}
				}
			}
		}
	}
}
