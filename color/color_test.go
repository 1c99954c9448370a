package color

import (
	"fmt"
	"math"
	"math/rand"
	"testing"

	"grisaille/api"
)

func px(r, g, b, a int) api.Pixel {
	return api.Pixel{R: uint8(r), G: uint8(g), B: uint8(b), A: uint8(a)}
}
func col(r, g, b, a int) api.Color { return api.Color(px(r, g, b, a)) }

// div is n/d, rounded with ties away from zero.
func div(n, d int) int {
	if n < 0 {
		return -div(-n, d)
	}
	return (2*n + d) / (2 * d)
}

func random(r *rand.Rand) api.Pixel { return px(r.Intn(256), r.Intn(256), r.Intn(256), r.Intn(256)) }

// each returns a pixel made of the components with f.
func each(f func(v, w int) int, a, b api.Pixel) api.Pixel {
	return px(f(int(a.R), int(b.R)), f(int(a.G), int(b.G)), f(int(a.B), int(b.B)), f(int(a.A), int(b.A)))
}

func TestP27_1Premultiplied(t *testing.T) {
	if p := Premultiply(col(255, 128, 0, 128)); p != px(128, 64, 0, 128) {
		t.Error("the chapter's example", p)
	}
	for p, want := range map[api.Pixel]bool{px(0, 0, 0, 0): true, px(5, 5, 5, 5): true, px(6, 5, 5, 5): false, px(5, 6, 5, 5): false, px(5, 5, 6, 5): false, px(255, 0, 255, 255): true} {
		if Valid(p) != want {
			t.Error("Valid", p)
		}
	}
	if Clamp(px(9, 3, 200, 5)) != px(5, 3, 5, 5) || Unpremultiply(px(9, 9, 9, 0)) != (api.Color{}) || Unpremultiply(px(200, 50, 100, 100)) != col(255, 128, 255, 100) {
		t.Error("Clamp or Unpremultiply")
	}
	r := rand.New(rand.NewSource(1))
	for range 20000 {
		p := random(r)
		a := int(p.A)
		if Premultiply(api.Color(p)) != px(div(int(p.R)*a, 255), div(int(p.G)*a, 255), div(int(p.B)*a, 255), a) {
			t.Fatal("Premultiply", p)
		}
		k := Clamp(p)
		if !Valid(k) || Valid(p) != (k == p) || k.A != p.A {
			t.Fatal("Clamp", p)
		}
		if a > 0 && Unpremultiply(p) != col(div(255*int(k.R), a), div(255*int(k.G), a), div(255*int(k.B), a), a) {
			t.Fatal("Unpremultiply", p)
		}
	}
}

func TestP27_2P27_4Interpolation(t *testing.T) {
	r := rand.New(rand.NewSource(2))
	for range 20000 {
		p, q, k := random(r), random(r), r.Intn(256)
		if Scale(p, uint8(k)) != each(func(v, w int) int { return div(v*k, 255) }, p, q) {
			t.Fatal("Scale", p, k)
		}
		if Lerp(p, q, uint8(k)) != each(func(v, w int) int { return div(v*(255-k)+w*k, 255) }, p, q) {
			t.Fatal("Lerp", p, q, k)
		}
		d := 1 + r.Intn(1000)
		n := r.Intn(d + 1)
		if LerpColor(api.Color(p), api.Color(q), n, d) != api.Color(each(func(v, w int) int { return v + div(n*(w-v), d) }, p, q)) {
			t.Fatal("LerpColor", p, q, n, d)
		}
		v, w := Clamp(p), Clamp(q)
		if !Valid(Scale(v, uint8(k))) || !Valid(Lerp(v, w, uint8(k))) || Premultiply(Unpremultiply(v)) != v {
			t.Fatal("valid pixels", v, w, k)
		}
	}
	a, b := col(10, 20, 30, 40), col(50, 0, 250, 255)
	for _, c := range []struct {
		n, d int
		want api.Color
	}{{0, 0, a}, {5, -1, a}, {-5, 9, a}, {99, 9, b}, {1 << 40, 1 << 40, b}, {1 << 40, 1<<40 + 1, a}, {math.MaxInt, 1, b}, {math.MinInt, 1, a}, {1, 2, col(30, 10, 140, 148)}} {
		if got := LerpColor(a, b, c.n, c.d); got != c.want {
			t.Error("LerpColor", c, got)
		}
	}
}

func TestP27_3Text(t *testing.T) {
	if Format(col(255, 128, 0, 128)) != "#ff800080" {
		t.Error("the chapter's example")
	}
	r := rand.New(rand.NewSource(3))
	for range 2000 {
		c := api.Color(random(r))
		s := Format(c)
		if s != fmt.Sprintf("#%02x%02x%02x%02x", c.R, c.G, c.B, c.A) {
			t.Fatal("Format", c, s)
		}
		if d, e := Parse(s); d != c || e != api.OK {
			t.Fatal("Parse", s, d, e)
		}
	}
	for _, s := range []string{"", "#", "ff800080", "#ff8000", "#ff80008000", "#FF800080", "##f800080", "#ff80008", "#ff80008g", " #ff800080", "#ff800080 "} {
		if c, e := Parse(s); c != (api.Color{}) || e != api.ErrSyntax {
			t.Error("Parse", s, c, e)
		}
	}
}

func TestP27_5P27_6P27_8HSL(t *testing.T) {
	if h, s, l := ToHSL(col(255, 128, 0, 7)); h != 129 || s != 255 || l != 255 {
		t.Error("the chapter's example", h, s, l)
	}
	if Luminance(col(255, 255, 255, 0)) != 255 || Luminance(col(255, 0, 0, 9)) != 54 || Luminance(col(0, 255, 0, 9)) != 182 || Luminance(col(0, 0, 255, 9)) != 18 {
		t.Error("Luminance")
	}
	for r := 0; r < 256; r += 3 {
		for g := 0; g < 256; g += 5 {
			for b := range 256 {
				c := col(r, g, b, b)
				if int(Luminance(c)) != div(2126*r+7152*g+722*b, 10000) {
					t.Fatal("Luminance", c)
				}
				h, s, l := ToHSL(c)
				hi, lo := max(r, g, b), min(r, g, b)
				wantH, wantS := 0, 0
				if d := hi - lo; d > 0 {
					wantS = div(255*d, min(hi+lo, 510-hi-lo))
					switch {
					case hi == r:
						wantH = (div(256*(g-b), d) + 1536) % 1536
					case hi == g:
						wantH = 512 + div(256*(b-r), d)
					default:
						wantH = 1024 + div(256*(r-g), d)
					}
				}
				if h != wantH || s != wantS || l != hi+lo {
					t.Fatal("ToHSL", c, h, s, l)
				}
				if d, ok := FromHSL(h, s, l, c.A); d != c || !ok {
					t.Fatal("FromHSL of ToHSL", c, d, ok)
				}
			}
		}
	}
	r := rand.New(rand.NewSource(4))
	for range 20000 {
		h, s, l := r.Intn(1536), r.Intn(256), r.Intn(511)
		d := div(s*min(l, 510-l), 255)
		lo := (l - d) / 2
		hi, f := lo+d, h%256
		up, down := lo+div(d*f, 256), lo+div(d*(256-f), 256)
		want := []api.Color{col(hi, up, lo, 9), col(down, hi, lo, 9), col(lo, hi, up, 9), col(lo, down, hi, 9), col(up, lo, hi, 9), col(hi, lo, down, 9)}[h/256]
		if got, ok := FromHSL(h, s, l, 9); got != want || !ok {
			t.Fatal("FromHSL", h, s, l, got, want)
		}
	}
	for _, c := range [][3]int{{-1, 0, 0}, {1536, 0, 0}, {0, -1, 0}, {0, 256, 0}, {0, 0, -1}, {0, 0, 511}, {math.MinInt, 0, 0}, {0, math.MaxInt, 0}} {
		if got, ok := FromHSL(c[0], c[1], c[2], 9); got != (api.Color{}) || ok {
			t.Error("FromHSL", c, got, ok)
		}
	}
	if _, ok := FromHSL(1535, 255, 510, 255); !ok {
		t.Error("FromHSL at the ends")
	}
}

func TestP27_7P27_8Matrix(t *testing.T) {
	identity := [20]int{0: 256, 6: 256, 12: 256, 18: 256}
	r := rand.New(rand.NewSource(5))
	for range 5000 {
		c := api.Color(random(r))
		if d, ok := ApplyMatrix(identity, c); d != c || !ok {
			t.Fatal("the identity", c, d)
		}
		var m [20]int
		for i := range m {
			m[i] = r.Intn(700) - 350
		}
		if r.Intn(3) == 0 {
			m[r.Intn(20)] = []int{65536, -65536}[r.Intn(2)]
		}
		var want [4]int
		for i := range want {
			k := m[5*i:]
			want[i] = max(0, min(255, div(k[0]*int(c.R)+k[1]*int(c.G)+k[2]*int(c.B)+k[3]*int(c.A)+k[4], 256)))
		}
		if d, ok := ApplyMatrix(m, c); d != col(want[0], want[1], want[2], want[3]) || !ok {
			t.Fatal("ApplyMatrix", m, c, d)
		}
		m[r.Intn(20)] = []int{65537, -65537, math.MinInt, math.MaxInt}[r.Intn(4)]
		if d, ok := ApplyMatrix(m, c); d != (api.Color{}) || ok {
			t.Fatal("a coefficient out of range", m, d)
		}
	}
}
