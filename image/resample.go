package image

import (
	"grisaille/api"
	"grisaille/color"
	"grisaille/intmath"
)

// Mipmap returns m and its successively halved versions, down to one pixel.
func Mipmap(m api.Image) []api.Image {
	if !Valid(m) {
		return nil
	}
	versions := []api.Image{copyOf(m)}
	for last := m; last.Width > 1 || last.Height > 1; {
		last = halve(last)
		versions = append(versions, last)
	}
	return versions
}

func copyOf(m api.Image) api.Image {
	return build(m.Width, m.Height, func(x, y int) api.Pixel { return m.Pixels[y*m.Width+x] })
}

// halve returns the image in which each pixel is the mean of four texels.
func halve(m api.Image) api.Image {
	return build((m.Width+1)/2, (m.Height+1)/2, func(x, y int) api.Pixel {
		var total sum
		for i := range 4 {
			total.add(texel(m, 2*x+i%2, 2*y+i/2, api.Pad), 1)
		}
		return total.dividedBy(4)
	})
}

// A share is the index of a source pixel and the length that it has in common with a pixel of the result.
type share struct{ index, length int }

// shares returns, for each of the n pixels of a side of the result, those of the source, which has size pixels there. The source pixel i extends from i*n to (i+1)*n, the pixel x of the result from x*size to (x+1)*size.
func shares(size, n int) [][]share {
	all := make([][]share, n)
	for x := range n {
		from, to := x*size, (x+1)*size
		for i := from / n; i*n < to; i++ {
			all[x] = append(all[x], share{i, min(to, (i+1)*n) - max(from, i*n)})
		}
	}
	return all
}

// Resize returns the image of w by h pixels in which each pixel is the mean of m over the rectangle that corresponds to it.
func Resize(m api.Image, w int, h int) (api.Image, api.Errno) {
	if !Valid(m) {
		return api.Image{}, api.ErrPaint
	}
	if !validSize(w, h) {
		return api.Image{}, api.ErrRange
	}
	columns, rows := shares(m.Width, w), shares(m.Height, h)
	return build(w, h, func(x, y int) api.Pixel {
		var total sum
		for _, row := range rows[y] {
			for _, column := range columns[x] {
				total.add(m.Pixels[row.index*m.Width+column.index], row.length*column.length)
			}
		}
		return total.dividedBy(m.Width * m.Height)
	}), api.OK
}

// thresholds is the matrix of ordered dithering, row by row.
var thresholds = [16]int{0, 8, 2, 10, 12, 4, 14, 6, 3, 11, 1, 9, 15, 7, 13, 5}

// Dither reduces each component to the given number of levels by ordered dithering.
func Dither(m api.Image, levels int) (api.Image, api.Errno) {
	if !Valid(m) {
		return api.Image{}, api.ErrPaint
	}
	if levels < 2 || levels > 256 {
		return api.Image{}, api.ErrArgument
	}
	steps := levels - 1
	return build(m.Width, m.Height, func(x, y int) api.Pixel {
		threshold := 255 * (2*thresholds[y%4*4+x%4] + 1)
		level := func(v uint8) uint8 {
			return uint8(intmath.DivRound(255*((32*int(v)*steps+threshold)/8160), steps))
		}
		p := m.Pixels[y*m.Width+x]
		return color.Clamp(api.Pixel{R: level(p.R), G: level(p.G), B: level(p.B), A: level(p.A)})
	}), api.OK
}
