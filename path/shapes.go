package path

import (
	"grisaille/api"
	"grisaille/vec"
)

// Round corners are cubic curves whose control points stand at this fraction of the radius.
const (
	roundness     = 36195
	roundnessUnit = 65536
)

// corners returns the upper left and the lower right corner of r in units, unless r has no pixels.
func corners(r api.Rect) (api.Point, api.Point, bool) {
	for _, n := range [4]int{r.X0, r.Y0, r.X1, r.Y1} {
		if n < -api.MaxPixelCoord || n > api.MaxPixelCoord {
			return api.Point{}, api.Point{}, false
		}
	}
	low := api.Point{X: r.X0 * api.UnitsPerPixel, Y: r.Y0 * api.UnitsPerPixel}
	high := api.Point{X: r.X1 * api.UnitsPerPixel, Y: r.Y1 * api.UnitsPerPixel}
	return low, high, low.X < high.X && low.Y < high.Y
}

// draw returns a segment to the last one of the points.
func draw(verb int, coordinates ...int) api.Segment {
	var points []api.Point
	for i := 0; i+1 < len(coordinates); i += 2 {
		points = append(points, api.Point{X: coordinates[i], Y: coordinates[i+1]})
	}
	return withPoints(verb, points)
}

// FromRect returns the closed path through the corners of r.
func FromRect(r api.Rect) []api.Segment {
	low, high, ok := corners(r)
	if !ok {
		return nil
	}
	return []api.Segment{
		draw(api.MoveTo, low.X, low.Y),
		draw(api.LineTo, high.X, low.Y),
		draw(api.LineTo, high.X, high.Y),
		draw(api.LineTo, low.X, high.Y),
		draw(api.ClosePath),
	}
}

// RoundRect returns the path of a rectangle with rounded corners.
func RoundRect(r api.Rect, radius int) []api.Segment {
	low, high, ok := corners(r)
	if !ok {
		return nil
	}
	radius = max(0, min(radius, (high.X-low.X)/2, (high.Y-low.Y)/2))
	if radius == 0 {
		return FromRect(r)
	}
	k := vec.Lerp(api.Point{}, api.Point{X: radius}, roundness, roundnessUnit).X
	x0, y0, x1, y1 := low.X, low.Y, high.X, high.Y
	return []api.Segment{
		draw(api.MoveTo, x0+radius, y0),
		draw(api.LineTo, x1-radius, y0),
		draw(api.CubicTo, x1-radius+k, y0, x1, y0+radius-k, x1, y0+radius),
		draw(api.LineTo, x1, y1-radius),
		draw(api.CubicTo, x1, y1-radius+k, x1-radius+k, y1, x1-radius, y1),
		draw(api.LineTo, x0+radius, y1),
		draw(api.CubicTo, x0+radius-k, y1, x0, y1-radius+k, x0, y1-radius),
		draw(api.LineTo, x0, y0+radius),
		draw(api.CubicTo, x0, y0+radius-k, x0+radius-k, y0, x0+radius, y0),
		draw(api.ClosePath),
	}
}
