package paint

import (
	"math"
	"math/rand"
	"slices"
	"testing"

	"grisaille/affine"
	"grisaille/api"
	"grisaille/color"
	"grisaille/gradient"
	"grisaille/gradientpos"
	"grisaille/image"
	"grisaille/integer"
	"grisaille/rational"
)

const most = api.MaxCoord

func pt(x, y int) api.Point { return api.Point{X: x, Y: y} }

func rat(n, d int) api.Rat { return api.Rat{Num: integer.FromInt(n), Den: integer.FromInt(d)} }

func col(r, g, b, a int) api.Color {
	return api.Color{R: uint8(r), G: uint8(g), B: uint8(b), A: uint8(a)}
}

var huge = api.Rat{Num: api.Int{Mag: []uint32{0, 0, 0, 0, 0, 0, 0, 0, 1}}, Den: integer.FromInt(1)}

var blackToWhite = []api.ColorStop{{Offset: 0, Color: col(0, 0, 0, 255)}, {Offset: api.GradientOne, Color: col(255, 255, 255, 255)}}

func solid() api.Paint { return api.Paint{Kind: api.SolidPaint, Color: col(255, 128, 0, 128)} }

func linearPaint() api.Paint {
	return api.Paint{Kind: api.LinearGradient, P1: pt(512, 0), Stops: slices.Clone(blackToWhite), Spread: api.Pad, Transform: affine.Identity()}
}

func radialPaint() api.Paint {
	return api.Paint{Kind: api.RadialGradient, P0: pt(100, 200), Radius: 300, Stops: slices.Clone(blackToWhite), Spread: api.Reflect, Transform: affine.Identity()}
}

func patternPaint() api.Paint {
	m := api.Image{Width: 3, Height: 2}
	for i := range 6 {
		m.Pixels = append(m.Pixels, color.Clamp(api.Pixel{R: uint8(i * 40), G: uint8(200 - i*7), B: uint8(i), A: uint8(255 - i*30)}))
	}
	return api.Paint{Kind: api.PatternPaint, Image: m, Spread: api.Pad, Sampling: api.Bilinear, Transform: affine.Identity()}
}

func TestP34_1Valid(t *testing.T) {
	type change = func(p *api.Paint)
	all := map[string]change{
		"Color": func(p *api.Paint) { p.Color.B = 1 }, "P0": func(p *api.Paint) { p.P0.Y = 1 }, "P1": func(p *api.Paint) { p.P1.X = 1 }, "Radius": func(p *api.Paint) { p.Radius = 1 }, "Stops": func(p *api.Paint) { p.Stops = blackToWhite[:1] },
		"Spread": func(p *api.Paint) { p.Spread = api.Repeat }, "Width": func(p *api.Paint) { p.Image.Width = 1 }, "Height": func(p *api.Paint) { p.Image.Height = 1 }, "Pixels": func(p *api.Paint) { p.Image.Pixels = make([]api.Pixel, 1) }, "Sampling": func(p *api.Paint) { p.Sampling = api.Nearest },
		"Transform": func(p *api.Paint) { p.Transform = affine.Scale(rat(2, 1), rat(3, 1)) },
	}
	fields := map[string][]string{"solid": {"Color"}, "linear": {"P0", "P1", "Stops", "Spread", "Transform"}, "radial": {"P0", "Radius", "Stops", "Spread", "Transform"}, "pattern": {"Spread", "Sampling", "Transform"}}
	for name, make := range map[string]func() api.Paint{"solid": solid, "linear": linearPaint, "radial": radialPaint, "pattern": patternPaint} {
		if !Valid(make()) || !Equal(make(), make()) {
			t.Error("Valid or Equal", name)
		}
		for field, f := range all {
			p := make()
			f(&p)
			if Valid(p) != slices.Contains(fields[name], field) {
				t.Error("Valid:", name, "with", field)
			}
			if Equal(p, make()) {
				t.Error("Equal:", name, "with another", field)
			}
		}
		for field, f := range map[string]change{
			"kind 0": func(p *api.Paint) { p.Kind = 0 }, "kind 5": func(p *api.Paint) { p.Kind = 5 }, "a huge transform": func(p *api.Paint) { p.Transform.E = huge },
			"a singular transform": func(p *api.Paint) {
				p.Transform = affine.Identity()
				p.Transform.D = api.Rat{}
			},
		} {
			p := make()
			f(&p)
			if Valid(p) {
				t.Error("Valid:", name, "with", field)
			}
		}
	}
	zero := solid()
	zero.Transform = affine.Scale(rat(0, 1), rat(0, -7))
	zero.Stops, zero.Image.Pixels = []api.ColorStop{}, []api.Pixel{}
	if !Valid(zero) || !Equal(zero, solid()) {
		t.Error("a zero transform whose coefficients represent 0, and empty slices")
	}
	for name, c := range map[string]struct {
		make   func() api.Paint
		change change
		want   bool
	}{
		"P0 at the limit": {linearPaint, func(p *api.Paint) { p.P0 = pt(most, -most) }, true}, "P0 beyond": {linearPaint, func(p *api.Paint) { p.P0.X = most + 1 }, false}, "P1 beyond": {linearPaint, func(p *api.Paint) { p.P1.Y = -most - 1 }, false}, "center beyond": {radialPaint, func(p *api.Paint) { p.P0.Y = math.MaxInt }, false},
		"no stops": {linearPaint, func(p *api.Paint) { p.Stops = nil }, false}, "no radial stops": {radialPaint, func(p *api.Paint) { p.Stops = nil }, false}, "spread 0": {linearPaint, func(p *api.Paint) { p.Spread = 0 }, false}, "spread 4": {radialPaint, func(p *api.Paint) { p.Spread = 4 }, false}, "equal ends": {linearPaint, func(p *api.Paint) { p.P1 = p.P0 }, true},
		"radius 0": {radialPaint, func(p *api.Paint) { p.Radius = 0 }, false}, "radius at the limit": {radialPaint, func(p *api.Paint) { p.Radius = most }, true}, "radius beyond": {radialPaint, func(p *api.Paint) { p.Radius = most + 1 }, false},
		"pattern spread 0": {patternPaint, func(p *api.Paint) { p.Spread = 0 }, true}, "pattern spread 4": {patternPaint, func(p *api.Paint) { p.Spread = 4 }, false}, "sampling 0": {patternPaint, func(p *api.Paint) { p.Sampling = 0 }, false}, "sampling 3": {patternPaint, func(p *api.Paint) { p.Sampling = 3 }, false}, "an invalid image": {patternPaint, func(p *api.Paint) { p.Image.Width = 2 }, false},
	} {
		p := c.make()
		c.change(&p)
		if Valid(p) != c.want {
			t.Error("Valid:", name)
		}
	}
	p, q := linearPaint(), linearPaint()
	q.Stops[1].Offset--
	if Equal(p, q) {
		t.Error("Equal with other stops")
	}
	a, b := patternPaint(), patternPaint()
	b.Image.Pixels[5].A++
	if Equal(a, b) {
		t.Error("Equal with another pixel")
	}
	if Equal(solid(), api.Paint{Kind: api.LinearGradient, Color: solid().Color}) {
		t.Error("Equal with another kind")
	}
}

func TestP34_1NewBrush(t *testing.T) {
	wide := affine.Scale(huge, huge)
	singular := affine.Scale(rat(1, 1), rat(0, 1))
	great := affine.Scale(api.Rat{Num: api.Int{Mag: []uint32{0, 0, 0, 0, 0, 0, 0, 1 << 31}}, Den: integer.FromInt(1)}, rat(1, 1)) // 2^255
	if b, e := NewBrush(solid(), wide); b == nil || e != api.OK {
		t.Error("a solid brush for every transform", e)
	}
	bad := linearPaint()
	bad.Stops = nil
	tiny := linearPaint()
	tiny.Transform = affine.Scale(rat(1, 3), rat(1, 1))
	for name, c := range map[string]struct {
		p api.Paint
		t api.Affine
		e api.Errno
	}{"an invalid paint": {bad, wide, api.ErrPaint}, "the zero paint": {api.Paint{}, wide, api.ErrPaint}, "too wide": {linearPaint(), wide, api.ErrLimit}, "singular": {radialPaint(), singular, api.ErrDivideByZero}, "the zero transform": {patternPaint(), api.Affine{}, api.ErrDivideByZero}} {
		if b, e := NewBrush(c.p, c.t); b != nil || e != c.e {
			t.Error(name, e)
		}
	}
	skewed := great
	skewed.E, skewed.D = rat(1, 3), rat(5, 7)
	skewed.B = rat(1, 11)
	skewed.C = rat(1, 1)
	_, want := affine.Invert(skewed)
	if b, e := NewBrush(linearPaint(), skewed); e != want || (b == nil) != (want != api.OK) {
		t.Error("the error of the inverse", e, want)
	}
}

// slowAt is the chapter's definition of At.
func slowAt(p api.Paint, m api.Affine, x, y int) api.Pixel {
	if p.Kind == api.SolidPaint {
		return color.Premultiply(p.Color)
	}
	all, _ := affine.Compose(p.Transform, m)
	back, _ := affine.Invert(all)
	u, v := affine.ApplyExact(back, rat(512*x+256, 2), rat(512*y+256, 2))
	switch p.Kind {
	case api.LinearGradient:
		return color.Premultiply(gradient.SpreadColorAt(p.Stops, p.Spread, gradientpos.LinearPos(p.P0, p.P1, u, v)))
	case api.RadialGradient:
		return color.Premultiply(gradient.SpreadColorAt(p.Stops, p.Spread, gradientpos.RadialPos(p.P0, p.Radius, u, v)))
	}
	return image.Sample(p.Image, p.Sampling, p.Spread, rational.Mul(u, rat(1, 256)), rational.Mul(v, rat(1, 256)))
}

func TestP34_2P34_3At(t *testing.T) {
	b, e := NewBrush(linearPaint(), affine.Identity())
	if e != api.OK || b.At(0, 0) != (api.Pixel{R: 64, G: 64, B: 64, A: 255}) {
		t.Error("the chapter's example", e)
	}
	r := rand.New(rand.NewSource(1))
	for range 400 {
		p := []func() api.Paint{solid, linearPaint, radialPaint, patternPaint}[r.Intn(4)]()
		if p.Kind == api.PatternPaint {
			p.Spread, p.Sampling = r.Intn(4), 1+r.Intn(2)
		} else if p.Kind != api.SolidPaint {
			p.Spread = 1 + r.Intn(3)
		}
		if p.Kind != api.SolidPaint {
			p.Transform, _ = affine.Compose(affine.Skew(rat(r.Intn(5), 3), rat(0, 1)), affine.Scale(rat(1+r.Intn(9), 4), rat(-1-r.Intn(9), 7)))
		}
		m, _ := affine.Compose(affine.QuarterTurn(r.Intn(4)), affine.Translate(rat(r.Intn(99), 2), rat(r.Intn(99), 5)))
		keep := slices.Clone(p.Stops)
		b, e := NewBrush(p, m)
		if e != api.OK {
			t.Fatal(e)
		}
		x, y := r.Intn(40)-20, r.Intn(40)-20
		if r.Intn(5) == 0 {
			x, y = 4096, -4096
		}
		want := slowAt(p, m, x, y)
		got := b.At(x, y)
		if got != want || !color.Valid(got) {
			t.Fatal("At", p, m, x, y, got, want)
		}
		for i := range p.Stops {
			p.Stops[i] = api.ColorStop{}
		}
		for i := range p.Image.Pixels {
			p.Image.Pixels[i] = api.Pixel{}
		}
		if b.At(x, y) != want {
			t.Fatal("the brush shares memory with its paint")
		}
		copy(p.Stops, keep)
		row := b.Row(x-3, y, 5)
		if len(row) != 5 {
			t.Fatal("Row", len(row))
		}
		for i, q := range row {
			if q != b.At(x-3+i, y) {
				t.Fatal("Row", i)
			}
		}
		for _, k := range [][2]int{{4097, 0}, {-4097, 0}, {0, 4097}, {0, -4097}, {math.MaxInt, 0}, {0, math.MinInt}} {
			if b.At(k[0], k[1]) != (api.Pixel{}) {
				t.Fatal("beyond the range", k)
			}
		}
	}
	s, _ := NewBrush(solid(), affine.Identity())
	ink := color.Premultiply(solid().Color)
	for n, want := range map[int]int{-1: 0, math.MinInt: 0, 0: 0, 3: 3, 4096: 4096, 4097: 4096, math.MaxInt: 4096} {
		if l := s.Row(0, 0, n); len(l) != want || want > 0 && l[want-1] != ink {
			t.Error("Row", n, len(l))
		}
	}
	if l := s.Row(4095, 0, 4); !slices.Equal(l, []api.Pixel{ink, ink, {}, {}}) {
		t.Error("Row at the end", l)
	}
	for _, x := range []int{math.MaxInt - 1, math.MinInt} {
		if l := s.Row(x, 0, 4096); slices.Contains(l, ink) || len(l) != 4096 {
			t.Error("Row far away", x)
		}
	}
	for _, b := range []*Brush{nil, {}} {
		if b.At(0, 0) != (api.Pixel{}) || !slices.Equal(b.Row(0, 0, 2), []api.Pixel{{}, {}}) {
			t.Error("a brush that NewBrush did not create")
		}
	}
	edge := patternPaint() // the centers of the pixels -1 and 0 lie exactly 2^30 pixels of the image away
	edge.Transform = affine.Scale(rat(1, 1<<31), rat(1, 1))
	for sampling := 1; sampling <= 2; sampling++ {
		edge.Sampling = sampling
		b, _ := NewBrush(edge, affine.Identity())
		for x := -2; x <= 1; x++ {
			if got := b.At(x, 0); got != slowAt(edge, affine.Identity(), x, 0) || (got == api.Pixel{}) != (x == -2 || x == 1) {
				t.Error("the farthest position", sampling, x, got)
			}
		}
	}
	far := patternPaint()
	far.Transform = affine.Scale(rat(1, 1<<40), rat(1, 1))
	if b, _ := NewBrush(far, affine.Identity()); b.At(5, 0) != (api.Pixel{}) || b.At(5, 0) != slowAt(far, affine.Identity(), 5, 0) {
		t.Error("a position that is too far away")
	}
}
