package image

import (
	"math"
	"math/big"
	"math/rand"
	"slices"
	"testing"

	"grisaille/api"
	"grisaille/color"
	"grisaille/integer"
	"grisaille/rational"
)

func px(r, g, b, a int) api.Pixel {
	return api.Pixel{R: uint8(r), G: uint8(g), B: uint8(b), A: uint8(a)}
}

func img(w, h int, p ...api.Pixel) api.Image { return api.Image{Width: w, Height: h, Pixels: p} }

func rat(n, d int) api.Rat {
	return api.Rat{Num: integer.FromInt(n), Den: integer.FromInt(d)}
}

func random(r *rand.Rand) api.Image {
	m := api.Image{Width: 1 + r.Intn(5), Height: 1 + r.Intn(5)}
	for range m.Width * m.Height {
		m.Pixels = append(m.Pixels, color.Clamp(px(r.Intn(256), r.Intn(256), r.Intn(256), r.Intn(256))))
	}
	return m
}

var one = px(1, 1, 1, 1)
var good = img(1, 1, one)
var invalid = []api.Image{{}, img(1, 1), img(1, 1, one, one), img(0, 1), img(1, 0), img(-1, -1, one), img(1, 1, px(2, 1, 1, 1)), {Width: 4097, Height: 1, Pixels: make([]api.Pixel, 4097)}, {Width: 1, Height: 4097, Pixels: make([]api.Pixel, 4097)}, {Width: 257, Height: 256, Pixels: make([]api.Pixel, 257*256)}, {Width: math.MaxInt, Height: math.MaxInt, Pixels: []api.Pixel{one}}}

func isZero(m api.Image) bool { return m.Width == 0 && m.Height == 0 && len(m.Pixels) == 0 }

func div(n, d int) int { return (2*n + d) / (2 * d) }

func TestP33_1Basics(t *testing.T) {
	for _, m := range []api.Image{good, {Width: 4096, Height: 16, Pixels: make([]api.Pixel, 65536)}, {Width: 16, Height: 4096, Pixels: make([]api.Pixel, 65536)}} {
		if !Valid(m) {
			t.Error("Valid", m.Width, m.Height)
		}
	}
	for _, m := range invalid {
		if Valid(m) || Texel(m, 0, 0, api.Pad) != (api.Pixel{}) || Sample(m, api.Nearest, api.Pad, rat(1, 2), rat(1, 2)) != (api.Pixel{}) {
			t.Error("an invalid image", m.Width, m.Height)
		}
	}
	for _, c := range []struct {
		i, n, spread, want int
		ok                 bool
	}{
		{-1, 3, api.Reflect, 0, true}, {4, 3, api.Reflect, 1, true}, {3, 3, api.Reflect, 2, true}, {6, 3, api.Reflect, 0, true}, {-4, 3, api.Reflect, 2, true}, {-1, 3, api.Repeat, 2, true}, {3, 3, api.Repeat, 0, true}, {-9, 3, api.Pad, 0, true}, {9, 3, api.Pad, 2, true},
		{-1, 3, 0, 0, false}, {3, 3, 0, 0, false}, {2, 3, 0, 2, true}, {2, 3, 7, 2, true}, {3, 3, 7, 0, false}, {0, 0, api.Pad, 0, false}, {0, -5, api.Repeat, 0, false}, {math.MinInt, math.MaxInt, api.Reflect, math.MaxInt - 1, true}, {-1, math.MaxInt, api.Reflect, 0, true}, {math.MaxInt, math.MaxInt, api.Reflect, math.MaxInt - 1, true},
		{math.MinInt, 1, api.Reflect, 0, true}, {math.MaxInt, 1, api.Repeat, 0, true},
	} {
		if k, ok := WrapIndex(c.i, c.n, c.spread); k != c.want || ok != c.ok {
			t.Error("WrapIndex", c, k, ok)
		}
	}
	r := rand.New(rand.NewSource(1))
	for range 5000 {
		i, n := int(r.Uint64())>>r.Intn(64), 1+int(r.Uint64()>>1)>>r.Intn(62)
		mod := func(i, n *big.Int) *big.Int { return new(big.Int).Mod(i, n) }
		bi, bn := big.NewInt(int64(i)), big.NewInt(int64(n))
		k := mod(bi, new(big.Int).Lsh(bn, 1))
		if k.Cmp(bn) >= 0 {
			k.Sub(new(big.Int).Sub(new(big.Int).Lsh(bn, 1), big.NewInt(1)), k)
		}
		if got, _ := WrapIndex(i, n, api.Reflect); int64(got) != k.Int64() {
			t.Fatal("WrapIndex with Reflect", i, n, got)
		}
		if got, _ := WrapIndex(i, n, api.Repeat); int64(got) != mod(bi, bn).Int64() {
			t.Fatal("WrapIndex with Repeat", i, n, got)
		}
	}
	two := img(2, 1, one, px(9, 9, 9, 9))
	if Texel(two, 3, 5, api.Repeat) != px(9, 9, 9, 9) || Texel(two, 3, 5, api.Reflect) != one || Texel(two, 2, 0, 0) != (api.Pixel{}) || Texel(two, 0, -1, 0) != (api.Pixel{}) || Texel(two, 1, 0, 0) != px(9, 9, 9, 9) {
		t.Error("Texel")
	}
	if !Equal(two, img(2, 1, one, px(9, 9, 9, 9))) || Equal(two, img(1, 2, one, px(9, 9, 9, 9))) || Equal(two, img(2, 1, one, one)) || !Equal(api.Image{}, img(0, 0)) {
		t.Error("Equal")
	}
}

// slowBilinear is the chapter's definition.
func slowBilinear(m api.Image, spread int, x, y api.Rat) api.Pixel {
	at := func(f api.Rat) (int, int) {
		n, _ := integer.ToInt(rational.Floor(rational.Mul(rat(256, 1), rational.Sub(f, rat(1, 2)))))
		i := int(math.Floor(float64(n) / 256))
		return i, n - 256*i
	}
	i, f := at(x)
	j, g := at(y)
	var total [4]int
	for k := range 4 {
		p := Texel(m, i+k%2, j+k/2, spread)
		w := []int{256 - f, f}[k%2] * []int{256 - g, g}[k/2]
		for c, v := range []uint8{p.R, p.G, p.B, p.A} {
			total[c] += int(v) * w
		}
	}
	return px(div(total[0], 65536), div(total[1], 65536), div(total[2], 65536), div(total[3], 65536))
}

func TestP33_2P33_4Sample(t *testing.T) {
	r := rand.New(rand.NewSource(2))
	for range 3000 {
		m := random(r)
		x, y := rat(r.Intn(200)-100, 1+r.Intn(17)), rat(r.Intn(200)-100, -1-r.Intn(17))
		spread := r.Intn(4)
		i, _ := integer.ToInt(rational.Floor(x))
		j, _ := integer.ToInt(rational.Floor(y))
		if got := Sample(m, api.Nearest, spread, x, y); got != Texel(m, i, j, spread) {
			t.Fatal("Nearest", m, x, y, spread)
		}
		got := Sample(m, api.Bilinear, spread, x, y)
		if got != slowBilinear(m, spread, x, y) || !color.Valid(got) {
			t.Fatal("Bilinear", m, x, y, spread)
		}
		center := func(i int) api.Rat { return rat(2*i+1, 2) }
		if Sample(m, api.Bilinear, spread, center(i), center(j)) != Texel(m, i, j, spread) {
			t.Fatal("the center of a pixel", m, i, j, spread)
		}
		for k, s := range map[int]int{1: api.Repeat, 2: api.Reflect} {
			moved := Sample(m, api.Bilinear, s, rational.Add(x, rat(k*m.Width, 1)), rational.Sub(y, rat(k*m.Height, 1)))
			if moved != Sample(m, api.Bilinear, s, x, y) {
				t.Fatal("the period", m, x, y, s)
			}
		}
	}
	far := 1 << 30
	for sampling := 1; sampling <= 2; sampling++ {
		if Sample(good, sampling, api.Pad, rat(far, 1), rat(-far, 1)) != one {
			t.Error("the farthest position")
		}
		for _, f := range []api.Rat{rat(far*2+1, 2), rat(-far*2-1, 2), {Num: integer.New(true, []uint32{0, 0, 0, 1}), Den: integer.FromInt(1)}} {
			if Sample(good, sampling, api.Pad, f, rat(0, 1)) != (api.Pixel{}) || Sample(good, sampling, api.Pad, rat(0, 1), f) != (api.Pixel{}) {
				t.Error("too far", f)
			}
		}
	}
	for _, sampling := range []int{0, 3, -1} {
		if Sample(good, sampling, api.Pad, rat(0, 1), rat(0, 1)) != (api.Pixel{}) {
			t.Error("an unknown sampling mode", sampling)
		}
	}
	if Sample(good, api.Nearest, 0, api.Rat{}, api.Rat{Num: integer.FromInt(9)}) != one {
		t.Error("a number with denominator 0 represents 0")
	}
}

func TestP33_3Crop(t *testing.T) {
	m := img(3, 2, px(0, 0, 0, 1), px(0, 0, 0, 2), px(0, 0, 0, 3), px(0, 0, 0, 4), px(0, 0, 0, 5), px(0, 0, 0, 6))
	c, e := Crop(m, 1, 0, 2, 2)
	if e != api.OK || !Equal(c, img(2, 2, m.Pixels[1], m.Pixels[2], m.Pixels[4], m.Pixels[5])) || cap(c.Pixels) != 4 {
		t.Error("Crop", c, e)
	}
	for i, p := range m.Pixels {
		if one, e := Crop(m, i%3, i/3, 1, 1); e != api.OK || !Equal(one, img(1, 1, p)) {
			t.Error("Crop to one pixel", i, one, e)
		}
	}
	if all, e := Crop(m, 0, 0, 3, 2); e != api.OK || !Equal(all, m) {
		t.Error("Crop to the whole image", all, e)
	}
	c.Pixels[0].R = 77
	if m.Pixels[1].R != 0 {
		t.Error("Crop shares memory with its argument")
	}
	for _, k := range [][4]int{{0, 0, 0, 1}, {0, 0, 1, 0}, {-1, 0, 1, 1}, {0, -1, 1, 1}, {3, 0, 1, 1}, {0, 2, 1, 1}, {2, 0, 2, 1}, {0, 1, 1, 2}, {1, 1, math.MaxInt, 1}, {1, 1, 1, math.MaxInt}, {math.MaxInt, 0, 1, 1}, {0, math.MinInt, 1, 1}, {0, 0, -1, -1}} {
		if c, e := Crop(m, k[0], k[1], k[2], k[3]); e != api.ErrRange || !isZero(c) {
			t.Error("Crop", k, e)
		}
	}
	for _, bad := range invalid {
		for name, f := range map[string]func() (api.Image, api.Errno){"Crop": func() (api.Image, api.Errno) { return Crop(bad, -1, 0, 1, 1) }, "Resize": func() (api.Image, api.Errno) { return Resize(bad, 0, 0) }, "Dither": func() (api.Image, api.Errno) { return Dither(bad, 0) }, "Quantize": func() (api.Image, api.Errno) {
			p, i, e := Quantize(bad, 0)
			return api.Image{Pixels: p, Width: len(i)}, e
		}} {
			if m, e := f(); e != api.ErrPaint || !isZero(m) {
				t.Error(name, "of an invalid image", e)
			}
		}
		if len(Mipmap(bad)) != 0 {
			t.Error("Mipmap of an invalid image")
		}
	}
}

func valid(t *testing.T, what string, l ...api.Image) {
	t.Helper()
	for _, m := range l {
		if !Valid(m) || len(m.Pixels) != cap(m.Pixels) {
			t.Fatal(what, "is not valid", m)
		}
	}
}

func TestP33_5Mipmap(t *testing.T) {
	if l := Mipmap(img(3, 1, one, one, one)); len(l) != 3 || l[0].Width != 3 || l[1].Width != 2 || l[2].Width != 1 {
		t.Error("the chapter's example", l)
	}
	r := rand.New(rand.NewSource(3))
	for range 500 {
		m := random(r)
		l := Mipmap(m)
		valid(t, "Mipmap", l...)
		if !Equal(l[0], m) {
			t.Fatal("the first version", m, l)
		}
		if l[0].Pixels[0].A++; Equal(l[0], m) {
			t.Fatal("Mipmap shares memory with its argument")
		}
		l[0] = m
		last := l[len(l)-1]
		if last.Width != 1 || last.Height != 1 {
			t.Fatal("the last version", last)
		}
		for i := 1; i < len(l); i++ {
			p, q := l[i-1], l[i]
			if q.Width != (p.Width+1)/2 || q.Height != (p.Height+1)/2 || p.Width+p.Height == 2 {
				t.Fatal("the size of a version", p, q)
			}
			for y := range q.Height {
				for x := range q.Width {
					var total [4]int
					for k := range 4 {
						v := Texel(p, 2*x+k%2, 2*y+k/2, api.Pad)
						for c, n := range []uint8{v.R, v.G, v.B, v.A} {
							total[c] += int(n)
						}
					}
					if q.Pixels[y*q.Width+x] != px(div(total[0], 4), div(total[1], 4), div(total[2], 4), div(total[3], 4)) {
						t.Fatal("Mipmap", p, q, x, y)
					}
				}
			}
		}
	}
}

func TestP33_6P33_9Resize(t *testing.T) {
	for _, c := range [][2]int{{0, 1}, {1, 0}, {4097, 1}, {1, 4097}, {257, 256}, {-1, -1}, {math.MaxInt, 2}} {
		if m, e := Resize(good, c[0], c[1]); e != api.ErrRange || !isZero(m) {
			t.Error("Resize", c, e)
		}
	}
	r := rand.New(rand.NewSource(4))
	for range 500 {
		m := random(r)
		w, h := 1+r.Intn(7), 1+r.Intn(7)
		got, e := Resize(m, w, h)
		if e != api.OK || got.Width != w || got.Height != h {
			t.Fatal("Resize", e)
		}
		valid(t, "Resize", got)
		overlap := func(i, n, x, size int) int { return max(0, min((i+1)*n, (x+1)*size)-max(i*n, x*size)) }
		for y := range h {
			for x := range w {
				var total [4]int
				for j := range m.Height {
					for i := range m.Width {
						k := overlap(i, w, x, m.Width) * overlap(j, h, y, m.Height)
						p := m.Pixels[j*m.Width+i]
						for c, n := range []uint8{p.R, p.G, p.B, p.A} {
							total[c] += int(n) * k
						}
					}
				}
				d := m.Width * m.Height
				if got.Pixels[y*w+x] != px(div(total[0], d), div(total[1], d), div(total[2], d), div(total[3], d)) {
					t.Fatal("Resize", m, w, h, x, y)
				}
			}
		}
		if same, _ := Resize(m, m.Width, m.Height); !Equal(same, m) {
			t.Fatal("Resize to the same size", m)
		}
	}
}

// slowCut is the chapter's process, to the letter.
func slowCut(m api.Image, n int) ([]api.Pixel, []int) {
	at := func(i, c int) int {
		p := m.Pixels[i]
		return int([]uint8{p.R, p.G, p.B, p.A}[c])
	}
	extent := func(box []int, c int) int {
		lo, hi := 255, 0
		for _, i := range box {
			lo, hi = min(lo, at(i, c)), max(hi, at(i, c))
		}
		return hi - lo
	}
	widest := func(box []int) int { return max(extent(box, 0), extent(box, 1), extent(box, 2), extent(box, 3)) }
	all := make([]int, len(m.Pixels))
	for i := range all {
		all[i] = i
	}
	boxes := [][]int{all}
	for len(boxes) < n {
		k := 0
		for i := range boxes {
			if widest(boxes[i]) > widest(boxes[k]) {
				k = i
			}
		}
		if widest(boxes[k]) == 0 {
			break
		}
		c := 0
		for extent(boxes[k], c) != widest(boxes[k]) {
			c++
		}
		sorted := slices.Clone(boxes[k])
		slices.SortStableFunc(sorted, func(i, j int) int { return at(i, c) - at(j, c) })
		boxes[k] = sorted[:len(sorted)/2]
		boxes = append(boxes, sorted[len(sorted)/2:])
	}
	palette, indices := make([]api.Pixel, len(boxes)), make([]int, len(all))
	for b, box := range boxes {
		var total [4]int
		for _, i := range box {
			indices[i] = b
			for c := range total {
				total[c] += at(i, c)
			}
		}
		d := len(box)
		palette[b] = px(div(total[0], d), div(total[1], d), div(total[2], d), div(total[3], d))
	}
	return palette, indices
}

func TestP33_7P33_9Quantize(t *testing.T) {
	for _, n := range []int{0, 257, -1, math.MaxInt} {
		if p, i, e := Quantize(good, n); e != api.ErrArgument || len(p)+len(i) != 0 {
			t.Error("Quantize", n, e)
		}
	}
	if p, i, e := Quantize(img(2, 2, one, one, one, one), 256); e != api.OK || !slices.Equal(p, []api.Pixel{one}) || !slices.Equal(i, []int{0, 0, 0, 0}) {
		t.Error("an image of one color", p, i, e)
	}
	r := rand.New(rand.NewSource(5))
	for range 1000 {
		m := random(r)
		for i := range m.Pixels {
			if r.Intn(2) == 0 {
				m.Pixels[i] = m.Pixels[0]
			}
		}
		n := 1 + r.Intn(12)
		p, indices, e := Quantize(m, n)
		wantP, wantI := slowCut(m, n)
		if e != api.OK || !slices.Equal(p, wantP) || !slices.Equal(indices, wantI) || len(p) > n {
			t.Fatal("Quantize", m, n, p, indices)
		}
		for _, q := range p {
			if !color.Valid(q) {
				t.Fatal("a palette entry that is not valid", m, n)
			}
		}
	}
}

func TestP33_8P33_9Dither(t *testing.T) {
	for _, levels := range []int{0, 1, 257, -1, math.MaxInt} {
		if m, e := Dither(good, levels); e != api.ErrArgument || !isZero(m) {
			t.Error("Dither", levels, e)
		}
	}
	matrix := [4][4]int{{0, 8, 2, 10}, {12, 4, 14, 6}, {3, 11, 1, 9}, {15, 7, 13, 5}}
	r := rand.New(rand.NewSource(6))
	for range 500 {
		m := random(r)
		levels := 2 + r.Intn(255)
		got, e := Dither(m, levels)
		if e != api.OK || got.Width != m.Width || got.Height != m.Height {
			t.Fatal("Dither", e)
		}
		valid(t, "Dither", got)
		for i, p := range m.Pixels {
			b := matrix[i/m.Width%4][i%m.Width%4]
			f := func(v uint8) int {
				return div(255*((32*int(v)*(levels-1)+255*(2*b+1))/8160), levels-1)
			}
			if got.Pixels[i] != color.Clamp(px(f(p.R), f(p.G), f(p.B), f(p.A))) {
				t.Fatal("Dither", m, levels, i)
			}
		}
		if same, _ := Dither(m, 256); !Equal(same, m) {
			t.Fatal("256 levels", m)
		}
	}
}
