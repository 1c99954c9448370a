package image

import (
	"cmp"
	"slices"

	"grisaille/api"
)

// maxColors is the greatest size of a palette.
const maxColors = 256

// A box is a sequence of pixel indices that share an entry of the palette.
type box []int

// extent returns the largest extent of the components in a box, and the first component that has it.
func (k box) extent(pixels []api.Pixel) (int, int) {
	low, high := componentsOf(pixels[k[0]]), componentsOf(pixels[k[0]])
	for _, i := range k {
		for c, v := range componentsOf(pixels[i]) {
			low[c], high[c] = min(low[c], v), max(high[c], v)
		}
	}
	component := 0
	for c := range low {
		if high[c]-low[c] > high[component]-low[component] {
			component = c
		}
	}
	return high[component] - low[component], component
}

// split divides a box at its median in a component.
func (k box) split(pixels []api.Pixel, component int) (box, box) {
	slices.SortStableFunc(k, func(i, j int) int {
		return cmp.Compare(componentsOf(pixels[i])[component], componentsOf(pixels[j])[component])
	})
	half := len(k) / 2
	return k[:half:half], k[half:]
}

// medianCut divides all pixels into at most n boxes.
func medianCut(pixels []api.Pixel, n int) []box {
	all := make(box, len(pixels))
	for i := range all {
		all[i] = i
	}
	boxes := []box{all}
	extents, axes := make([]int, n), make([]int, n)
	measure := func(i int) { extents[i], axes[i] = boxes[i].extent(pixels) }
	measure(0)
	for len(boxes) < n {
		widest := 0
		for i := range boxes {
			if extents[i] > extents[widest] {
				widest = i
			}
		}
		if extents[widest] == 0 {
			break
		}
		first, rest := boxes[widest].split(pixels, axes[widest])
		boxes[widest] = first
		boxes = append(boxes, rest)
		measure(widest)
		measure(len(boxes) - 1)
	}
	return boxes
}

// Quantize reduces m to at most n colors by median cut, and returns the palette and the palette index of each pixel.
func Quantize(m api.Image, n int) ([]api.Pixel, []int, api.Errno) {
	if !Valid(m) {
		return nil, nil, api.ErrPaint
	}
	if n < 1 || n > maxColors {
		return nil, nil, api.ErrArgument
	}
	var palette []api.Pixel
	indices := make([]int, len(m.Pixels))
	for entry, k := range medianCut(m.Pixels, n) {
		var total sum
		for _, i := range k {
			total.add(m.Pixels[i], 1)
			indices[i] = entry
		}
		palette = append(palette, total.dividedBy(len(k)))
	}
	return palette, indices, api.OK
}
