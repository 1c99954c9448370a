package area

import (
	"slices"

	"grisaille/api"
	"grisaille/intersect"
	"grisaille/polygon"
	"grisaille/rational"
	"grisaille/scanline"
)

// An edge is an edge that is not horizontal; its direction is 1 if it leads to a greater Y, and otherwise -1.
type edge struct {
	low, high api.Point
	direction int
}

func newEdge(p, q api.Point) edge {
	if p.Y < q.Y {
		return edge{p, q, 1}
	}
	return edge{q, p, -1}
}

// spans reports whether y lies strictly between the heights of the ends.
func (e edge) spans(y api.Rat) bool {
	return rational.Cmp(rational.FromInt(e.low.Y), y) < 0 && rational.Cmp(y, rational.FromInt(e.high.Y)) < 0
}

// A crossSection holds the edges on which the winding numbers in a box depend: those that pass through it, and those on its right side. Of the latter only the heights matter.
type crossSection struct {
	box
	inside, right []edge
}

// sortEdges returns the edges of rings that matter for the box.
func (k box) sortEdges(l [][]api.Point) crossSection {
	c := crossSection{box: k}
	for p, q := range intersect.Edges(l) {
		if p.Y == q.Y || min(p.Y, q.Y) >= k.b.Y || max(p.Y, q.Y) <= k.a.Y {
			continue
		}
		e := newEdge(p, q)
		switch {
		case k.isCut(p, q):
			c.inside = append(c.inside, e)
		case k.isLeftOf(e):
			c.right = append(c.right, e)
		}
	}
	return c
}

// isLeftOf reports whether the box lies to the left of an edge that does not pass through it, but has points at its height.
func (k box) isLeftOf(e edge) bool {
	switch {
	case max(e.low.X, e.high.X) <= k.a.X:
		return false
	case min(e.low.X, e.high.X) >= k.b.X:
		return true
	}
	for _, c := range k.corners() { // no two of them lie on different sides of the edge
		if side := sideOf(e.low, e.high, c); side != 0 {
			return side > 0
		}
	}
	return false
}

// eventRings returns rings whose vertices and edges have all heights at which something changes.
func (c crossSection) eventRings() [][]api.Point {
	var rings [][]api.Point
	for _, e := range c.inside {
		rings = append(rings, []api.Point{e.low, e.high})
	}
	for _, e := range c.right {
		rings = append(rings, []api.Point{e.low}, []api.Point{e.high})
	}
	return rings
}

// A crossing is a point at which an edge crosses a line.
type crossing struct {
	x         api.Rat
	direction int
}

// lengthAt returns the length of the inside part of the box at the height y.
func (c crossSection) lengthAt(y api.Rat, rule int) api.Rat {
	winding := 0 // of the points to the left of all crossings
	for _, e := range c.right {
		if e.spans(y) {
			winding += e.direction
		}
	}
	var crossings []crossing
	for _, e := range c.inside {
		if e.spans(y) {
			x, _ := intersect.XAt(e.low, e.high, y)
			crossings = append(crossings, crossing{x, e.direction})
			winding += e.direction
		}
	}
	slices.SortFunc(crossings, func(a, b crossing) int { return rational.Cmp(a.x, b.x) })
	left, right := rational.FromInt(c.a.X), rational.FromInt(c.b.X)
	var spans []api.Span
	from := left
	for _, x := range append(crossings, crossing{x: right}) {
		if polygon.Fills(winding, rule) {
			spans = append(spans, api.Span{From: from, To: x.x})
		}
		from = x.x
		winding -= x.direction
	}
	return scanline.Length(spans, left, right)
}
