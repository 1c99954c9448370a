package fill

import (
	"math"
	"math/rand"
	"testing"

	"grisaille/affine"
	"grisaille/api"
	"grisaille/bitmap"
	"grisaille/color"
	"grisaille/composite"
	"grisaille/mask"
	"grisaille/paint"
	"grisaille/rational"
	"grisaille/rect"
)

func r4(x0, y0, x1, y1 int) api.Rect { return api.Rect{X0: x0, Y0: y0, X1: x1, Y1: y1} }

func randomPixel(r *rand.Rand) api.Pixel {
	return color.Clamp(api.Pixel{R: uint8(r.Intn(256)), G: uint8(r.Intn(256)), B: uint8(r.Intn(256)), A: uint8(r.Intn(256))})
}

func random(r *rand.Rand) api.Bitmap {
	b := api.Bitmap{Bounds: rect.Canonical(r4(r.Intn(7)-3, r.Intn(7)-3, r.Intn(7)-1, r.Intn(7)-1))}
	for range rect.Area(b.Bounds) {
		b.Pixels = append(b.Pixels, randomPixel(r))
	}
	return b
}

func randomMask(r *rand.Rand) api.Mask {
	b := random(r)
	m := api.Mask{Bounds: b.Bounds}
	for range b.Pixels {
		m.Coverage = append(m.Coverage, []uint8{0, 255, uint8(r.Intn(256))}[r.Intn(3)])
	}
	return m
}

func randomImage(r *rand.Rand) api.Image {
	m := api.Image{Width: 1 + r.Intn(4), Height: 1 + r.Intn(4)}
	for range m.Width * m.Height {
		m.Pixels = append(m.Pixels, randomPixel(r))
	}
	return m
}

func brush(p api.Paint) *paint.Brush {
	b, e := paint.NewBrush(p, affine.Identity())
	if e != api.OK {
		panic(e)
	}
	return b
}

func gradientBrush(r *rand.Rand) *paint.Brush {
	return brush(api.Paint{Kind: api.LinearGradient, P1: api.Point{X: 100 + r.Intn(900), Y: r.Intn(500)}, Spread: api.Reflect, Transform: affine.Identity(),
		Stops: []api.ColorStop{{Color: api.Color(randomPixel(r))}, {Offset: api.GradientOne, Color: api.Color{R: 255, A: 200}}}})
}

// check fails unless every pixel of d is replaced by that of f, and d itself stays.
func check(t *testing.T, what string, d, got api.Bitmap, e api.Errno, f func(x, y int, p api.Pixel) api.Pixel) {
	t.Helper()
	if e != api.OK || got.Bounds != d.Bounds || !bitmap.Valid(got) {
		t.Fatal(what, e, got)
	}
	for y := d.Bounds.Y0; y < d.Bounds.Y1; y++ {
		for x := d.Bounds.X0; x < d.Bounds.X1; x++ {
			if p := bitmap.At(got, x, y); p != f(x, y, bitmap.At(d, x, y)) {
				t.Fatal(what, d, x, y, p)
			}
		}
	}
}

func isZero(s api.Bitmap) bool { return s.Bounds == api.Rect{} && len(s.Pixels) == 0 }

var good = api.Bitmap{Bounds: r4(0, 0, 1, 1), Pixels: []api.Pixel{{R: 1, A: 5}}}
var bad = api.Bitmap{Bounds: r4(0, 0, 1, 1), Pixels: []api.Pixel{{R: 9, A: 5}}}
var fullMask = api.Mask{Bounds: r4(0, 0, 1, 1), Coverage: []uint8{255}}
var badMask = api.Mask{Bounds: r4(0, 0, 1, 1)}

func TestP35_1Filling(t *testing.T) {
	white := api.Color{R: 255, G: 255, B: 255, A: 255}
	if s, e := WithColor(good, fullMask, white); e != api.OK || s.Pixels[0] != api.Pixel(white) {
		t.Error("the chapter's example", s, e)
	}
	for name, c := range map[string]struct {
		d    api.Bitmap
		m    api.Mask
		mode int
		e    api.Errno
	}{"bitmap first": {bad, badMask, 0, api.ErrBitmap}, "then the mask": {good, badMask, 0, api.ErrMask}, "mode 0": {good, fullMask, 0, api.ErrArgument}, "mode 14": {good, fullMask, 14, api.ErrArgument}, "mode -1": {good, fullMask, math.MinInt, api.ErrArgument}} {
		if s, e := WithBrush(c.d, c.m, nil, c.mode); e != c.e || !isZero(s) {
			t.Error(name, e)
		}
		if c.e != api.ErrArgument {
			if s, e := WithColor(c.d, c.m, white); e != c.e || !isZero(s) {
				t.Error("WithColor:", name, e)
			}
		}
	}
	r := rand.New(rand.NewSource(1))
	for range 500 {
		d, m, mode := random(r), randomMask(r), 1+r.Intn(13)
		b := gradientBrush(r)
		got, e := WithBrush(d, m, b, mode)
		check(t, "WithBrush", d, got, e, func(x, y int, p api.Pixel) api.Pixel {
			return composite.BlendWithCoverage(mode, b.At(x, y), p, mask.At(m, x, y))
		})
		paper, e := BrushBitmap(d.Bounds, b)
		if e != api.OK {
			t.Fatal(e)
		}
		if over, _ := bitmap.BlendOver(mode, paper, d, m); !bitmap.Equal(over, got) {
			t.Fatal("P35.3: BlendOver of BrushBitmap", d, m, mode)
		}
		c := api.Color(randomPixel(r))
		got, e = WithColor(d, m, c)
		check(t, "WithColor", d, got, e, func(x, y int, p api.Pixel) api.Pixel {
			return composite.BlendWithCoverage(api.Normal, color.Premultiply(c), p, mask.At(m, x, y))
		})
		got, e = WithBrush(d, m, nil, mode)
		check(t, "a nil brush", d, got, e, func(x, y int, p api.Pixel) api.Pixel { return p })
	}
}

func TestP35_2BrushBitmap(t *testing.T) {
	for r, want := range map[api.Rect]api.Errno{r4(0, 0, 4097, 1): api.ErrRange, r4(0, 0, 257, 256): api.ErrLimit, r4(9, 9, 1, 1): api.OK} {
		if s, e := BrushBitmap(r, nil); e != want || !isZero(s) {
			t.Error("BrushBitmap", r, e)
		}
	}
	r := rand.New(rand.NewSource(2))
	for range 100 {
		b := gradientBrush(r)
		d, _ := bitmap.New(random(r).Bounds, api.Pixel{})
		got, e := BrushBitmap(d.Bounds, b)
		check(t, "BrushBitmap", d, got, e, func(x, y int, p api.Pixel) api.Pixel { return b.At(x, y) })
		got, e = BrushBitmap(d.Bounds, nil)
		check(t, "a nil brush", d, got, e, func(x, y int, p api.Pixel) api.Pixel { return api.Pixel{} })
	}
}

func mod(a, b int) int { return ((a % b) + b) % b }

func TestP35_4P35_6Tiled(t *testing.T) {
	dot := api.Image{Width: 1, Height: 1, Pixels: []api.Pixel{{G: 7, A: 255}}}
	if s, e := Tiled(good, dot, 5, 5); e != api.OK || s.Pixels[0] != dot.Pixels[0] {
		t.Error("the chapter's example", s, e)
	}
	wrong := []api.Image{{}, {Width: 1, Height: 1}, {Width: 1, Height: 1, Pixels: []api.Pixel{{R: 1}}}, {Width: 4097, Height: 1, Pixels: make([]api.Pixel, 4097)}, {Width: 0, Height: 5}, {Width: -1, Height: -1, Pixels: make([]api.Pixel, 1)}, {Width: 257, Height: 256, Pixels: make([]api.Pixel, 257*256)}}
	for _, img := range wrong {
		if s, e := Tiled(good, img, 9999, 0); e != api.ErrPaint || !isZero(s) {
			t.Error("an invalid image", img.Width, e)
		}
		if s, e := Tiled(bad, img, 9999, 0); e != api.ErrBitmap || !isZero(s) {
			t.Error("an invalid bitmap comes first", e)
		}
	}
	for _, c := range [][2]int{{4097, 0}, {0, -4097}, {math.MaxInt, 0}, {0, math.MinInt}} {
		if s, e := Tiled(good, dot, c[0], c[1]); e != api.ErrRange || !isZero(s) {
			t.Error("Tiled", c, e)
		}
	}
	if _, e := Tiled(good, api.Image{Width: 4096, Height: 16, Pixels: make([]api.Pixel, 65536)}, 4096, -4096); e != api.OK {
		t.Error("at the limits", e)
	}
	r := rand.New(rand.NewSource(3))
	for range 500 {
		d, img, dx, dy := random(r), randomImage(r), r.Intn(30)-15, r.Intn(30)-15
		got, e := Tiled(d, img, dx, dy)
		check(t, "Tiled", d, got, e, func(x, y int, p api.Pixel) api.Pixel {
			return composite.BlendWithCoverage(api.Normal, img.Pixels[mod(y-dy, img.Height)*img.Width+mod(x-dx, img.Width)], p, 255)
		})
		b := brush(api.Paint{Kind: api.PatternPaint, Image: img, Spread: api.Repeat, Sampling: api.Nearest, Transform: affine.Translate(rational.FromInt(256*dx), rational.FromInt(256*dy))})
		m, _ := mask.Uniform(d.Bounds, 255)
		if same, _ := WithBrush(d, m, b, api.Normal); !bitmap.Equal(same, got) {
			t.Fatal("a pattern paint", d, img, dx, dy)
		}
	}
}

func TestP35_5P35_6CopyRect(t *testing.T) {
	for name, c := range map[string]struct {
		d, s api.Bitmap
		r    api.Rect
		x, y int
		e    api.Errno
	}{
		"d": {bad, good, r4(0, 0, 4097, 1), 0, 0, api.ErrBitmap}, "s": {good, bad, r4(0, 0, 4097, 1), 0, 0, api.ErrBitmap}, "r": {good, good, r4(0, 0, 4097, 1), 0, 0, api.ErrRange}, "r far": {good, good, r4(0, math.MinInt, 1, 1), 0, 0, api.ErrRange}, "x": {good, good, r4(0, 0, 1, 1), 4097, 0, api.ErrRange}, "y": {good, good, r4(0, 0, 1, 1), 0, -4097, api.ErrRange}, "far": {good, good, r4(0, 0, 1, 1), math.MinInt, math.MaxInt, api.ErrRange},
	} {
		if s, e := CopyRect(c.d, c.s, c.r, c.x, c.y); e != c.e || !isZero(s) {
			t.Error(name, e)
		}
	}
	if s, e := CopyRect(good, good, r4(4096, 4096, -4096, -4096), 4096, -4096); e != api.OK || !bitmap.Equal(s, good) {
		t.Error("an empty rectangle", s, e)
	}
	r := rand.New(rand.NewSource(4))
	for range 1000 {
		d, s := random(r), random(r)
		part := r4(r.Intn(7)-3, r.Intn(7)-3, r.Intn(7)-1, r.Intn(7)-1)
		x, y := r.Intn(7)-3, r.Intn(7)-3
		got, e := CopyRect(d, s, part, x, y)
		check(t, "CopyRect", d, got, e, func(i, j int, p api.Pixel) api.Pixel {
			if u, v := i-x+part.X0, j-y+part.Y0; rect.Contains(part, u, v) && rect.Contains(s.Bounds, u, v) {
				return bitmap.At(s, u, v)
			}
			return p
		})
		all, _ := CopyRect(d, s, s.Bounds, s.Bounds.X0, s.Bounds.Y0)
		if pasted, _ := bitmap.Paste(d, s); !bitmap.Equal(all, pasted) {
			t.Fatal("Paste", d, s)
		}
	}
}
