package coverage

import (
	"grisaille/api"
	"grisaille/polygon"
	"grisaille/rational"
	"grisaille/rect"
)

// pixelArea is the area of a pixel in square units.
const pixelArea = api.UnitsPerPixel * api.UnitsPerPixel

// An edge leads from its lower end a to its upper end b; its sign is -1 if it is traversed the other way.
type edge struct {
	a, b api.Point
	sign int
}

// edgesOf returns the edges of valid polygons that are not horizontal.
func edgesOf(l [][]api.Point) []edge {
	var edges []edge
	for _, ring := range l {
		for i, a := range ring {
			b := ring[(i+1)%len(ring)]
			switch {
			case a.Y < b.Y:
				edges = append(edges, edge{a, b, 1})
			case b.Y < a.Y:
				edges = append(edges, edge{b, a, -1})
			}
		}
	}
	return edges
}

// edgesWithin returns the edges that pass through the rows of r.
func edgesWithin(edges []edge, r api.Rect) []edge {
	var within []edge
	for _, e := range edges {
		if e.a.Y < r.Y1*api.UnitsPerPixel && e.b.Y > r.Y0*api.UnitsPerPixel {
			within = append(within, e)
		}
	}
	return within
}

// leftOf returns the area between the vertical line at x and those parts of the edge that lie to its right, from the height y0 up to y1.
func (e edge) leftOf(x, y0, y1 int) api.Rat {
	width, height := e.b.X-e.a.X, e.b.Y-e.a.Y
	// The distances from the line at both heights, multiplied by the height of the edge.
	u := (e.a.X-x)*height + width*(y0-e.a.Y)
	v := (e.a.X-x)*height + width*(y1-e.a.Y)
	if u > v {
		u, v = v, u
	}
	var sum api.Rat // twice the mean of the distances that are positive
	switch {
	case u >= 0:
		sum = rational.FromInt(u + v)
	case v > 0:
		share, _ := rational.FromInts(v, v-u)
		sum = rational.Mul(share, rational.FromInt(v))
	default:
		return rational.FromInt(0)
	}
	scale, _ := rational.FromInts(y1-y0, 2*height)
	return rational.Mul(sum, scale)
}

// signedArea returns the signed area to the left of all edges in the pixel, in pixels.
func signedArea(edges []edge, x, y int) api.Rat {
	left, top := x*api.UnitsPerPixel, y*api.UnitsPerPixel
	right, bottom := left+api.UnitsPerPixel, top+api.UnitsPerPixel
	whole := 0 // what edges to the right of the pixel contribute
	sum := rational.FromInt(0)
	for _, e := range edges {
		y0, y1 := max(e.a.Y, top), min(e.b.Y, bottom)
		if y0 >= y1 || max(e.a.X, e.b.X) <= left {
			continue
		}
		if min(e.a.X, e.b.X) >= right {
			whole += e.sign * (y1 - y0) * api.UnitsPerPixel
			continue
		}
		part := rational.Sub(e.leftOf(left, y0, y1), e.leftOf(right, y0, y1))
		sum = rational.Add(sum, rational.Mul(part, rational.FromInt(e.sign)))
	}
	f, _ := rational.Quo(rational.Add(sum, rational.FromInt(whole)), rational.FromInt(pixelArea))
	return f
}

// SignedArea returns the sum of the signed areas to the left of the edges of l in a pixel.
func SignedArea(l [][]api.Point, x int, y int) (api.Rat, api.Errno) {
	if !polygon.Valid(l) {
		return api.Rat{}, api.ErrPolygon
	}
	if !rect.Valid(api.Rect{X0: x, Y0: y, X1: x + 1, Y1: y + 1}) {
		return api.Rat{}, api.ErrRange
	}
	return signedArea(edgesOf(l), x, y), api.OK
}

// Accumulate returns the mask that holds the coverage of SignedArea for every pixel of r.
func Accumulate(l [][]api.Point, r api.Rect) (api.Mask, api.Errno) {
	if !polygon.Valid(l) {
		return api.Mask{}, api.ErrPolygon
	}
	if e := checkRect(r); e != api.OK {
		return api.Mask{}, e
	}
	m := newMask(r)
	edges := edgesOf(l)
	i := 0
	for row := range rect.Tiles(r, api.MaxPixels, 1) {
		inRow := edgesWithin(edges, row)
		for x := row.X0; x < row.X1; x++ {
			m.Coverage[i] = FromArea(signedArea(inRow, x, row.Y0))
			i++
		}
	}
	return m, api.OK
}
