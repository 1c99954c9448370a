package paint

import (
	"slices"

	"grisaille/affine"
	"grisaille/api"
	"grisaille/color"
	"grisaille/gradient"
	"grisaille/gradientpos"
	"grisaille/image"
	"grisaille/rational"
)

// A shader returns the pixel of a paint at a point in the paint's own coordinates.
type shader interface {
	shade(u, v api.Rat) api.Pixel
}

// flat is the shader of a solid paint.
type flat struct{ pixel api.Pixel }

func (s flat) shade(u, v api.Rat) api.Pixel { return s.pixel }

// stops are the colors of a gradient.
type stops struct {
	colors []api.ColorStop
	spread int
}

// at returns the pixel at a position along the gradient.
func (s stops) at(position int) api.Pixel {
	return color.Premultiply(gradient.SpreadColorAt(s.colors, s.spread, position))
}

// linear is the shader of a linear gradient.
type linear struct {
	stops
	from, to api.Point
}

func (s linear) shade(u, v api.Rat) api.Pixel {
	return s.at(gradientpos.LinearPos(s.from, s.to, u, v))
}

// radial is the shader of a radial gradient.
type radial struct {
	stops
	center api.Point
	radius int
}

func (s radial) shade(u, v api.Rat) api.Pixel {
	return s.at(gradientpos.RadialPos(s.center, s.radius, u, v))
}

// pattern is the shader of an image.
type pattern struct {
	image            api.Image
	sampling, spread int
}

// shade samples the image through a window of four texels: image.Sample looks at all pixels of what it is given, and a whole image may have many. A position is in the window at the same place between the texels.
func (s pattern) shade(u, v api.Rat) api.Pixel {
	x, i, ok := inWindow(u)
	y, j, both := inWindow(v)
	if !ok || !both {
		return api.Pixel{}
	}
	window := api.Image{Width: 2, Height: 2, Pixels: []api.Pixel{s.texel(i, j), s.texel(i+1, j), s.texel(i, j+1), s.texel(i+1, j+1)}}
	return image.Sample(window, s.sampling, api.Pad, x, y)
}

// texel returns the pixel of the image at the wrapped x and y.
func (s pattern) texel(x, y int) api.Pixel {
	column, ok := image.WrapIndex(x, s.image.Width, s.spread)
	row, both := image.WrapIndex(y, s.image.Height, s.spread)
	if !ok || !both {
		return api.Pixel{}
	}
	return s.image.Pixels[row*s.image.Width+column]
}

// inWindow returns, for a coordinate in units, the position in the window, from 1/2 to below 3/2, and the index of the first texel of the window; and whether the position is near enough for image.Sample.
func inWindow(f api.Rat) (api.Rat, int, bool) {
	const far = 1 << 30
	f = rational.Mul(f, fraction(1, api.UnitsPerPixel))
	if rational.Cmp(f, rational.FromInt(far)) > 0 || rational.Cmp(f, rational.FromInt(-far)) < 0 {
		return api.Rat{}, 0, false
	}
	i := floor(rational.Sub(f, fraction(1, 2)))
	return rational.Sub(f, rational.FromInt(i)), i, true
}

// floor returns f, rounded down, for an f whose digits fit into a machine word.
func floor(f api.Rat) int {
	whole := rational.Floor(f)
	n := 0
	for i := len(whole.Mag) - 1; i >= 0; i-- {
		n = n<<32 | int(whole.Mag[i])
	}
	if whole.Neg {
		return -n
	}
	return n
}

// newShader returns the shader of a valid paint; it shares no memory with it.
func newShader(p api.Paint) shader {
	colors := stops{slices.Clone(p.Stops), p.Spread}
	switch p.Kind {
	case api.SolidPaint:
		return flat{color.Premultiply(p.Color)}
	case api.LinearGradient:
		return linear{colors, p.P0, p.P1}
	case api.RadialGradient:
		return radial{colors, p.P0, p.Radius}
	}
	copied := api.Image{Width: p.Image.Width, Height: p.Image.Height, Pixels: slices.Clone(p.Image.Pixels)}
	return pattern{copied, p.Sampling, p.Spread}
}

// Brush gives the pixels of a paint.
type Brush struct {
	shader  shader
	inverse api.Affine // from the page to the paint; unused by a solid paint
}

// NewBrush returns the brush of a paint whose shape is transformed by t.
func NewBrush(p api.Paint, t api.Affine) (*Brush, api.Errno) {
	if !Valid(p) {
		return nil, api.ErrPaint
	}
	s := newShader(p)
	switch s.(type) {
	case flat:
		return &Brush{shader: s}, api.OK
	}
	toPage, e := affine.Compose(p.Transform, t)
	if e != api.OK {
		return nil, e
	}
	inverse, e := affine.Invert(toPage)
	if e != api.OK {
		return nil, e
	}
	return &Brush{s, inverse}, api.OK
}

// At returns the pixel of the brush.
func (b *Brush) At(x int, y int) api.Pixel {
	if b == nil || b.shader == nil || max(x, y) > api.MaxPixelCoord || min(x, y) < -api.MaxPixelCoord {
		return api.Pixel{}
	}
	switch s := b.shader.(type) {
	case flat:
		return s.pixel
	}
	u, v := affine.ApplyExact(b.inverse, center(x), center(y))
	return b.shader.shade(u, v)
}

// center returns the coordinate of the center of a pixel, in units.
func center(n int) api.Rat {
	return fraction((2*n+1)*api.UnitsPerPixel, 2)
}

// fraction returns n/d for a d that is not 0.
func fraction(n, d int) api.Rat {
	f, _ := rational.FromInts(n, d)
	return f
}

// Row returns the pixels at n consecutive values of x.
func (b *Brush) Row(x int, y int, n int) []api.Pixel {
	var row []api.Pixel
	for i := range max(0, min(n, api.MaxPixelCoord)) {
		row = append(row, b.At(x+i, y)) // where x + i wraps round, both ends are out of range
	}
	return row
}
