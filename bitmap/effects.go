package bitmap

import (
	"grisaille/api"
	"grisaille/color"
	"grisaille/intmath"
)

// maxBlur is the greatest radius of BoxBlur.
const maxBlur = 16

// A sum holds sums of the four components of pixels.
type sum [4]int

func (s sum) plus(t sum) sum {
	for i, n := range t {
		s[i] += n
	}
	return s
}

// dividedBy returns the pixel of the means.
func (s sum) dividedBy(n int) api.Pixel {
	mean := func(i int) uint8 { return uint8(intmath.DivRound(s[i], n)) }
	return api.Pixel{R: mean(0), G: mean(1), B: mean(2), A: mean(3)}
}

func sumOf(p api.Pixel) sum {
	return sum{int(p.R), int(p.G), int(p.B), int(p.A)}
}

// BoxBlur returns the bitmap in which each pixel is the mean of those around it.
func BoxBlur(s api.Bitmap, n int) (api.Bitmap, api.Errno) {
	if !Valid(s) {
		return api.Bitmap{}, api.ErrBitmap
	}
	if n < 0 || n > maxBlur {
		return api.Bitmap{}, api.ErrRange
	}
	r := s.Bounds
	width, height := r.X1-r.X0, r.Y1-r.Y0
	rows := make([]sum, len(s.Pixels)) // first the sums along the rows
	for i := range rows {
		x := i % width
		for j := max(x-n, 0); j <= min(x+n, width-1); j++ {
			rows[i] = rows[i].plus(sumOf(s.Pixels[i-x+j]))
		}
	}
	return build(r, func(x, y int) api.Pixel {
		var total sum
		column, row := x-r.X0, y-r.Y0
		for j := max(row-n, 0); j <= min(row+n, height-1); j++ {
			total = total.plus(rows[j*width+column])
		}
		return total.dividedBy((2*n + 1) * (2*n + 1))
	}), api.OK
}

// Shadow returns the bitmap of a blurred shadow of s in the color c, moved by the given number of pixels.
func Shadow(s api.Bitmap, by api.Point, n int, c api.Color) (api.Bitmap, api.Errno) {
	blurred, e := BoxBlur(s, n)
	if e != api.OK {
		return api.Bitmap{}, e
	}
	// Beyond this nothing of the shadow is left, and coordinates cannot overflow.
	const far = 4 * api.MaxPixelCoord
	by = api.Point{X: intmath.Clamp(by.X, -far, far), Y: intmath.Clamp(by.Y, -far, far)}
	ink := color.Premultiply(c)
	return build(s.Bounds, func(x, y int) api.Pixel {
		return color.Scale(ink, at(blurred, x-by.X, y-by.Y).A)
	}), api.OK
}

// Histogram returns how many pixels have each value, for R, G, B and A.
func Histogram(s api.Bitmap) [4][256]int {
	var counts [4][256]int
	for _, p := range orEmpty(s).Pixels {
		for i, v := range [4]uint8{p.R, p.G, p.B, p.A} {
			counts[i][v]++
		}
	}
	return counts
}
