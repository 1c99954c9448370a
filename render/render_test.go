package render

import (
	"math"
	"math/rand"
	"testing"

	"grisaille/api"
	"grisaille/bitmap"
	"grisaille/color"
	"grisaille/compositor"
	"grisaille/rect"
	"grisaille/samples"
)

func r4(x0, y0, x1, y1 int) api.Rect { return api.Rect{X0: x0, Y0: y0, X1: x1, Y1: y1} }

func isZero(s api.Bitmap) bool { return s.Bounds == api.Rect{} && len(s.Pixels) == 0 }

func TestP42_1Rendering(t *testing.T) {
	white := api.Color{R: 255, G: 255, B: 255, A: 255}
	b, e := Page(api.Scene{Width: 3, Height: 2, Background: white})
	if want, _ := bitmap.New(r4(0, 0, 3, 2), api.Pixel(white)); e != api.OK || !bitmap.Equal(b, want) {
		t.Error("the chapter's example", b, e)
	}
	r := rand.New(rand.NewSource(1))
	for range 40 {
		s := samples.Scene(r.Intn)
		page := r4(0, 0, s.Width, s.Height)
		if PageRect(s) != page {
			t.Fatal("PageRect", PageRect(s))
		}
		for _, part := range []api.Rect{page, r4(-5, -5, 99, 99), r4(r.Intn(4), r.Intn(4), r.Intn(9), r.Intn(9)), r4(50, 0, 60, 9), {}} {
			paper, _ := bitmap.New(rect.Intersect(part, page), color.Premultiply(s.Background))
			want, _ := compositor.DrawChildren(s, -1, paper)
			if got, e := Rect(s, part); e != api.OK || !bitmap.Equal(got, want) || !bitmap.Valid(got) {
				t.Fatal("Rect", part, e)
			}
		}
		whole, e := Page(s)
		if same, _ := Rect(s, page); e != api.OK || !bitmap.Equal(whole, same) {
			t.Fatal("Page", e)
		}
		x, y := r.Intn(s.Width), r.Intn(s.Height)
		if p, e := Pixel(s, x, y); e != api.OK || p != bitmap.At(whole, x, y) {
			t.Fatal("Pixel", x, y, p, e)
		}
	}
}

func TestP42_1P42_2Errors(t *testing.T) {
	good, bad := api.Scene{Width: 3, Height: 3}, api.Scene{}
	wide := r4(0, 0, 4097, 1)
	if PageRect(bad) != (api.Rect{}) {
		t.Error("PageRect of an invalid scene")
	}
	for _, c := range []struct {
		s api.Scene
		r api.Rect
		e api.Errno
	}{{bad, wide, api.ErrScene}, {good, wide, api.ErrRange}, {good, r4(math.MinInt, 0, 1, 1), api.ErrRange}} {
		if b, e := Rect(c.s, c.r); e != c.e || !isZero(b) {
			t.Error("Rect", c.r, e)
		}
		if l, e := Rects(c.s, r4(0, 0, 1, 1), c.r); e != c.e || len(l) != 0 {
			t.Error("Rects", c.r, e)
		}
		if b, e := Patch(api.Bitmap{}, c.s, r4(0, 0, 1, 1), c.r); e != c.e || !isZero(b) {
			t.Error("Patch", c.r, e)
		}
		if b, e := Patch(api.Bitmap{Bounds: r4(0, 0, 1, 1)}, c.s, c.r); e != api.ErrBitmap || !isZero(b) {
			t.Error("Patch of an invalid bitmap", e)
		}
	}
	if b, e := Page(bad); e != api.ErrScene || !isZero(b) {
		t.Error("Page of an invalid scene", e)
	}
	if p, e := Pixel(bad, 99, 99); e != api.ErrScene || p != (api.Pixel{}) {
		t.Error("Pixel of an invalid scene", e)
	}
	for _, c := range [][2]int{{3, 0}, {0, 3}, {-1, 0}, {0, -1}, {math.MaxInt, 0}, {0, math.MinInt}} {
		if p, e := Pixel(good, c[0], c[1]); e != api.ErrRange || p != (api.Pixel{}) {
			t.Error("Pixel", c, e)
		}
	}
	if l, e := Rects(good); e != api.OK || len(l) != 0 {
		t.Error("Rects of nothing", e)
	}
}

func TestP42_2P42_3Parts(t *testing.T) {
	r := rand.New(rand.NewSource(2))
	for range 30 {
		s := samples.Scene(r.Intn)
		whole, _ := Page(s)
		var parts []api.Rect
		for tile := range rect.Tiles(PageRect(s), 1+r.Intn(5), 1+r.Intn(5)) {
			parts = append(parts, tile)
		}
		r.Shuffle(len(parts), func(i, j int) { parts[i], parts[j] = parts[j], parts[i] })
		l, e := Rects(s, parts...)
		if e != api.OK || len(l) != len(parts) {
			t.Fatal("Rects", e)
		}
		for i, b := range l {
			if want, _ := bitmap.Crop(whole, parts[i]); !bitmap.Equal(b, want) {
				t.Fatal("a part of the page", parts[i])
			}
		}
		empty, _ := bitmap.New(r4(-1, -1, 9, 9), api.Pixel{})
		got, e := Patch(empty, s, parts...)
		want, _ := bitmap.Paste(empty, whole)
		if e != api.OK || !bitmap.Equal(got, want) {
			t.Fatal("Patch", e)
		}
	}
}
