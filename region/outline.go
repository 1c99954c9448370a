package region

import (
	"cmp"
	"slices"

	"grisaille/api"
)

// Directions of the edges of a contour; each is followed by the next one at a clockwise turn.
const (
	right = iota
	down
	left
	up
	directions
)

// A side is a maximal straight part of the boundary.
type side struct {
	from, to  api.Point
	direction int
}

// A start identifies a side: at a point where two pixels touch diagonally two sides start, in different directions.
type start struct {
	at        api.Point
	direction int
}

// Outline returns the boundary of the pixels of l as rings of points in units.
func Outline(l []api.Rect) ([][]api.Point, api.Errno) {
	region, e := New(l...)
	if e != api.OK {
		return nil, e
	}
	sides := append(horizontalSides(region), verticalSides(region)...)
	slices.SortFunc(sides, func(a, b side) int { return comparePoints(a.from, b.from) })
	byStart := map[start]side{}
	for _, s := range sides {
		byStart[start{s.from, s.direction}] = s
	}
	var rings [][]api.Point
	used := map[start]bool{}
	for _, s := range sides {
		// The sides are sorted: the first one that is not used begins at the least point of its ring.
		if !used[start{s.from, s.direction}] {
			rings = append(rings, follow(s, byStart, used))
		}
	}
	return rings, api.OK
}

// comparePoints orders points by Y and then by X.
func comparePoints(a, b api.Point) int {
	return cmp.Or(cmp.Compare(a.Y, b.Y), cmp.Compare(a.X, b.X))
}

// follow returns the ring that begins with the side s, and marks its sides as used. A clockwise turn goes first: it stays at the same pixel.
func follow(s side, byStart map[start]side, used map[start]bool) []api.Point {
	var ring []api.Point
	for {
		key := start{s.from, s.direction}
		if used[key] {
			return ring
		}
		used[key] = true
		ring = append(ring, api.Point{X: s.from.X * api.UnitsPerPixel, Y: s.from.Y * api.UnitsPerPixel})
		next, ok := byStart[start{s.to, (s.direction + 1) % directions}]
		if !ok {
			next = byStart[start{s.to, (s.direction + directions - 1) % directions}]
		}
		s = next
	}
}

// horizontalSides returns the upper sides of the pixels that have none above them, and the lower sides of those that have none below.
func horizontalSides(region []api.Rect) []side {
	var sides []side
	above := map[int][]run{}
	below := map[int][]run{}
	for _, r := range region {
		above[r.Y1] = append(above[r.Y1], run{r.X0, r.X1})
		below[r.Y0] = append(below[r.Y0], run{r.X0, r.X1})
	}
	steps := map[int][2]int{}
	for _, y := range bandEdges(region) {
		clear(steps)
		for which, runs := range [2][]run{below[y], above[y]} {
			addSteps(steps, rows(runs), 0, which)
		}
		for _, r := range runsOf(steps, onlyFirst) {
			sides = append(sides, side{api.Point{X: r.x0, Y: y}, api.Point{X: r.x1, Y: y}, right})
		}
		for _, r := range runsOf(steps, func(inBelow, inAbove bool) bool { return inAbove && !inBelow }) {
			sides = append(sides, side{api.Point{X: r.x1, Y: y}, api.Point{X: r.x0, Y: y}, left})
		}
	}
	return sides
}

// rows returns rectangles of one row with the given runs.
func rows(runs []run) []api.Rect {
	l := make([]api.Rect, len(runs))
	for i, r := range runs {
		l[i] = api.Rect{X0: r.x0, X1: r.x1, Y1: 1}
	}
	return l
}

// verticalSides returns the left and right sides of the runs; those that continue in the next band are joined.
func verticalSides(region []api.Rect) []side {
	var sides []side
	type end struct{ x, y, direction int }
	open := map[end]int{} // the side that ends there for now
	extend := func(x, y0, y1, direction int) {
		i, ok := open[end{x, y0, direction}]
		if !ok {
			i = len(sides)
			sides = append(sides, side{api.Point{X: x, Y: y0}, api.Point{}, direction})
		}
		sides[i].to = api.Point{X: x, Y: y1}
		open[end{x, y1, direction}] = i
	}
	for _, r := range region {
		extend(r.X1, r.Y0, r.Y1, down)
		extend(r.X0, r.Y0, r.Y1, up)
	}
	for i, s := range sides {
		if s.direction == up {
			sides[i].from, sides[i].to = s.to, s.from
		}
	}
	return sides
}
