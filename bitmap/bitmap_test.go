package bitmap

import (
	"math"
	"math/rand"
	"slices"
	"testing"

	"grisaille/api"
	"grisaille/color"
	"grisaille/composite"
	"grisaille/rect"
)

func r4(x0, y0, x1, y1 int) api.Rect { return api.Rect{X0: x0, Y0: y0, X1: x1, Y1: y1} }

func px(r, g, b, a int) api.Pixel {
	return api.Pixel{R: uint8(r), G: uint8(g), B: uint8(b), A: uint8(a)}
}

func bits(r api.Rect, p ...api.Pixel) api.Bitmap { return api.Bitmap{Bounds: r, Pixels: p} }

func randomPixel(r *rand.Rand) api.Pixel {
	return color.Clamp(px(r.Intn(256), r.Intn(256), r.Intn(256), r.Intn(256)))
}

func random(r *rand.Rand) api.Bitmap {
	b := api.Bitmap{Bounds: rect.Canonical(r4(r.Intn(7)-3, r.Intn(7)-3, r.Intn(7)-1, r.Intn(7)-1))}
	for range rect.Area(b.Bounds) {
		b.Pixels = append(b.Pixels, randomPixel(r))
	}
	return b
}

func randomMask(r *rand.Rand) api.Mask {
	b := random(r)
	m := api.Mask{Bounds: b.Bounds}
	for range b.Pixels {
		m.Coverage = append(m.Coverage, uint8(r.Intn(256)))
	}
	return m
}

// look is the oracle of At for valid bitmaps.
func look(s api.Bitmap, x, y int) api.Pixel {
	b := s.Bounds
	if x < b.X0 || x >= b.X1 || y < b.Y0 || y >= b.Y1 {
		return api.Pixel{}
	}
	return s.Pixels[(y-b.Y0)*(b.X1-b.X0)+x-b.X0]
}

func lookMask(m api.Mask, x, y int) uint8 {
	b := m.Bounds
	if x < b.X0 || x >= b.X1 || y < b.Y0 || y >= b.Y1 {
		return 0
	}
	return m.Coverage[(y-b.Y0)*(b.X1-b.X0)+x-b.X0]
}

func check4(t *testing.T, what string, s api.Bitmap, e api.Errno, bounds api.Rect, f func(x, y int) api.Pixel) {
	t.Helper()
	if e != api.OK || s.Bounds != bounds || !Valid(s) || len(s.Pixels) != cap(s.Pixels) {
		t.Fatal(what, s, e, bounds)
	}
	for y := bounds.Y0; y < bounds.Y1; y++ {
		for x := bounds.X0; x < bounds.X1; x++ {
			if look(s, x, y) != f(x, y) {
				t.Fatal(what, s, x, y, f(x, y))
			}
		}
	}
}

var one = px(1, 1, 1, 1)
var good = bits(r4(0, 0, 1, 1), one)
var invalid = []api.Bitmap{bits(r4(0, 0, 1, 1)), bits(r4(0, 0, 1, 1), one, one), bits(r4(1, 1, 1, 2)), bits(r4(2, 0, 0, 1)), bits(api.Rect{}, one), bits(r4(0, 0, 1, 1), px(2, 0, 0, 1)), bits(r4(0, 0, 4097, 1)), {Bounds: r4(0, 0, 257, 256), Pixels: make([]api.Pixel, 257*256)}}

func isZero(s api.Bitmap) bool { return s.Bounds == api.Rect{} && len(s.Pixels) == 0 }

func TestP30_1Basics(t *testing.T) {
	if s, e := New(r4(0, 0, 1, 1), px(9, 9, 9, 3)); e != api.OK || !Equal(s, bits(r4(0, 0, 1, 1), px(3, 3, 3, 3))) {
		t.Error("the chapter's example", s, e)
	}
	for r, want := range map[api.Rect]api.Errno{r4(0, 0, 4097, 1): api.ErrRange, r4(math.MinInt, 0, 1, 1): api.ErrRange, r4(0, 0, 257, 256): api.ErrLimit, r4(0, 0, 256, 256): api.OK, r4(5, 5, 2, 2): api.OK} {
		s, e := New(r, one)
		if e != want || e != api.OK && !isZero(s) || e == api.OK && (!Valid(s) || s.Bounds != rect.Canonical(r)) {
			t.Error("New", r, e)
		}
	}
	for _, s := range invalid {
		if Valid(s) || At(s, 0, 0) != (api.Pixel{}) || len(Bytes(s)) != 0 || DiffBounds(s, good) != r4(0, 0, 1, 1) || Histogram(s) != [4][256]int{} {
			t.Error("an invalid bitmap", s.Bounds)
		}
	}
	if !Valid(api.Bitmap{}) || string(Bytes(bits(r4(0, 0, 2, 1), px(1, 2, 3, 4), px(5, 6, 7, 8)))) != "\x01\x02\x03\x04\x05\x06\x07\x08" {
		t.Error("Valid or Bytes")
	}
	far := bits(r4(4000, 4000, 4001, 4001), one)
	if DiffBounds(good, far) != r4(0, 0, 4001, 4001) {
		t.Error("DiffBounds of bitmaps far apart")
	}
	r := rand.New(rand.NewSource(1))
	for range 500 {
		a, b := random(r), random(r)
		if r.Intn(2) == 0 {
			b = bits(a.Bounds, slices.Clone(a.Pixels)...)
			if len(b.Pixels) > 0 {
				b.Pixels[r.Intn(len(b.Pixels))] = randomPixel(r)
			}
		}
		want, same := api.Rect{}, a.Bounds == b.Bounds
		for y := -4; y < 7; y++ {
			for x := -4; x < 7; x++ {
				if At(a, x, y) != look(a, x, y) {
					t.Fatal("At", a, x, y)
				}
				if look(a, x, y) != look(b, x, y) {
					want, same = rect.Union(want, r4(x, y, x+1, y+1)), false
				}
			}
		}
		if DiffBounds(a, b) != want || Equal(a, b) != same {
			t.Fatal("DiffBounds or Equal", a, b)
		}
	}
}

func TestP30_2P30_3Operations(t *testing.T) {
	badMask := api.Mask{Bounds: r4(0, 0, 1, 1)}
	full := api.Mask{Bounds: r4(0, 0, 1, 1), Coverage: []uint8{255}}
	for _, bad := range invalid {
		for name, f := range map[string]func() (api.Bitmap, api.Errno){
			"Crop": func() (api.Bitmap, api.Errno) { return Crop(bad, r4(0, 0, 1, 1)) }, "Paste on": func() (api.Bitmap, api.Errno) { return Paste(bad) }, "Paste": func() (api.Bitmap, api.Errno) { return Paste(good, good, bad) },
			"BlendOver of": func() (api.Bitmap, api.Errno) { return BlendOver(0, bad, good, badMask) }, "BlendOver": func() (api.Bitmap, api.Errno) { return BlendOver(0, good, bad, badMask) }, "LerpMask": func() (api.Bitmap, api.Errno) { return LerpMask(bad, good, badMask) }, "LerpMask with": func() (api.Bitmap, api.Errno) { return LerpMask(good, bad, badMask) },
			"BoxBlur": func() (api.Bitmap, api.Errno) { return BoxBlur(bad, -1) }, "Shadow": func() (api.Bitmap, api.Errno) { return Shadow(bad, api.Point{}, 17, api.Color{}) },
		} {
			if s, e := f(); e != api.ErrBitmap || !isZero(s) {
				t.Error(name, bad.Bounds, e)
			}
		}
	}
	for _, mode := range []int{0, 14, -1} {
		if s, e := BlendOver(mode, good, good, badMask); e != api.ErrMask || !isZero(s) {
			t.Error("the mask comes before the mode", e)
		}
		if s, e := BlendOver(mode, good, good, full); e != api.ErrArgument || !isZero(s) {
			t.Error("an invalid mode", e)
		}
	}
	if s, e := LerpMask(good, good, badMask); e != api.ErrMask || !isZero(s) {
		t.Error("LerpMask with an invalid mask", e)
	}
	r := rand.New(rand.NewSource(2))
	for range 1000 {
		a, b, c, m, mode := random(r), random(r), random(r), randomMask(r), 1+r.Intn(13)
		crop := r4(r.Intn(7)-3, r.Intn(7)-3, r.Intn(7), r.Intn(7))
		before := slices.Concat(a.Pixels, b.Pixels, c.Pixels)
		s, e := Crop(a, crop)
		check4(t, "Crop", s, e, rect.Intersect(a.Bounds, crop), func(x, y int) api.Pixel { return look(a, x, y) })
		s, e = Paste(a, b, c)
		check4(t, "Paste", s, e, a.Bounds, func(x, y int) api.Pixel {
			for _, k := range []api.Bitmap{c, b} {
				if rect.Contains(k.Bounds, x, y) {
					return look(k, x, y)
				}
			}
			return look(a, x, y)
		})
		for i := range s.Pixels {
			s.Pixels[i].A++
		}
		over, e := BlendOver(mode, a, b, m)
		check4(t, "BlendOver", over, e, b.Bounds, func(x, y int) api.Pixel {
			return composite.BlendWithCoverage(mode, look(a, x, y), look(b, x, y), lookMask(m, x, y))
		})
		lerp, e := LerpMask(a, b, m)
		check4(t, "LerpMask", lerp, e, a.Bounds, func(x, y int) api.Pixel { return color.Lerp(look(a, x, y), look(b, x, y), lookMask(m, x, y)) })
		if !slices.Equal(before, slices.Concat(a.Pixels, b.Pixels, c.Pixels)) {
			t.Fatal("an argument was modified")
		}
		part, _ := Crop(b, crop)
		first, _ := BlendOver(mode, a, part, m)
		second, _ := Crop(over, crop)
		if !Equal(first, second) {
			t.Fatal("cropping", a, b, m, crop)
		}
	}
}

func TestP30_4P30_5Effects(t *testing.T) {
	if s, e := BoxBlur(bits(r4(0, 0, 1, 1), px(90, 90, 90, 90)), 1); e != api.OK || !Equal(s, bits(r4(0, 0, 1, 1), px(10, 10, 10, 10))) {
		t.Error("the chapter's example", s, e)
	}
	for n, want := range map[int]api.Errno{-1: api.ErrRange, 0: api.OK, 16: api.OK, 17: api.ErrRange, math.MinInt: api.ErrRange, math.MaxInt: api.ErrRange} {
		if s, e := BoxBlur(good, n); e != want || e != api.OK && !isZero(s) {
			t.Error("BoxBlur", n, e)
		}
		if s, e := Shadow(good, api.Point{}, n, api.Color{}); e != want || e != api.OK && !isZero(s) {
			t.Error("Shadow", n, e)
		}
	}
	row, _ := New(r4(-4096, 0, 4096, 1), px(0, 0, 0, 255))
	for _, by := range []int{8000, -8000, 8191, 8192} {
		s, e := Shadow(row, api.Point{X: by}, 0, api.Color{A: 255})
		check4(t, "a wide shadow", s, e, row.Bounds, func(x, y int) api.Pixel { return look(row, x-by, y) })
	}
	r := rand.New(rand.NewSource(3))
	for range 500 {
		a, n := random(r), r.Intn(4)
		blurred, e := BoxBlur(a, n)
		blur := func(x, y int) api.Pixel {
			var total [4]int
			for j := y - n; j <= y+n; j++ {
				for i := x - n; i <= x+n; i++ {
					p := look(a, i, j)
					for k, v := range []uint8{p.R, p.G, p.B, p.A} {
						total[k] += int(v)
					}
				}
			}
			d := (2*n + 1) * (2*n + 1)
			mean := func(k int) int { return (2*total[k] + d) / (2 * d) }
			return px(mean(0), mean(1), mean(2), mean(3))
		}
		check4(t, "BoxBlur", blurred, e, a.Bounds, blur)
		c := api.Color(px(r.Intn(256), r.Intn(256), r.Intn(256), r.Intn(256)))
		by := api.Point{X: r.Intn(7) - 3, Y: r.Intn(7) - 3}
		s, e := Shadow(a, by, n, c)
		check4(t, "Shadow", s, e, a.Bounds, func(x, y int) api.Pixel {
			k := uint8(0)
			if rect.Contains(a.Bounds, x-by.X, y-by.Y) {
				k = blur(x-by.X, y-by.Y).A
			}
			return color.Scale(color.Premultiply(c), k)
		})
		for _, far := range []api.Point{{X: math.MaxInt}, {X: math.MinInt}, {Y: math.MinInt}, {Y: math.MaxInt}} {
			s, e := Shadow(a, far, n, c)
			check4(t, "a shadow far away", s, e, a.Bounds, func(x, y int) api.Pixel { return api.Pixel{} })
		}
		if same, _ := BoxBlur(a, 0); !Equal(same, a) {
			t.Fatal("BoxBlur with n = 0", a)
		}
		var want [4][256]int
		for _, p := range a.Pixels {
			want[0][p.R]++
			want[1][p.G]++
			want[2][p.B]++
			want[3][p.A]++
		}
		if Histogram(a) != want {
			t.Fatal("Histogram", a)
		}
	}
}
