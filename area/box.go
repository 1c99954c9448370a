package area

import (
	"slices"

	"grisaille/api"
	"grisaille/polygon"
	"grisaille/rational"
)

// A box is the open rectangle between two corners. Most boxes are pixels and meet few of the edges of a drawing, so rings are simplified before anything exact is computed.
type box struct{ a, b api.Point }

func (k box) isEmpty() bool {
	return k.a.X >= k.b.X || k.a.Y >= k.b.Y
}

func (k box) area() api.Rat {
	return rational.Mul(rational.FromInt(k.b.X-k.a.X), rational.FromInt(k.b.Y-k.a.Y))
}

// Sides of a box, as bits.
const (
	beyondLeft = 1 << iota
	beyondRight
	beyondTop
	beyondBottom
)

// sides returns the sides of the box on or beyond which p lies.
func (k box) sides(p api.Point) int {
	s := 0
	if p.X <= k.a.X {
		s |= beyondLeft
	}
	if p.X >= k.b.X {
		s |= beyondRight
	}
	if p.Y <= k.a.Y {
		s |= beyondTop
	}
	if p.Y >= k.b.Y {
		s |= beyondBottom
	}
	return s
}

// localRings returns rings with the same winding numbers inside the box, without those that have none there.
func (k box) localRings(l [][]api.Point) [][]api.Point {
	var local [][]api.Point
	for _, ring := range l {
		ring = k.reduce(ring)
		if len(ring) > 2 && (k.isTouched(ring) || k.winding(ring) != 0) {
			local = append(local, ring)
		}
	}
	return local
}

// reduce leaves out vertices. One that lies beyond the same side of the box as both of its neighbours spans, with them, a triangle outside of the box, so that no winding number in the box depends on it.
func (k box) reduce(ring []api.Point) []api.Point {
	var kept []api.Point
	var sides []int
	for _, p := range ring {
		s := k.sides(p)
		for n := len(kept); n >= 2 && sides[n-2]&sides[n-1]&s != 0; n-- {
			kept, sides = kept[:n-1], sides[:n-1]
		}
		kept, sides = append(kept, p), append(sides, s)
	}
	return kept
}

// isTouched reports whether an edge of the ring has a point inside the box.
func (k box) isTouched(ring []api.Point) bool {
	p := ring[len(ring)-1]
	for _, q := range ring {
		if k.isCut(p, q) {
			return true
		}
		p = q
	}
	return false
}

// isCut reports whether the edge from p to q has a point inside the box: neither a side of the box nor the line through the edge separates them.
func (k box) isCut(p, q api.Point) bool {
	if k.sides(p)&k.sides(q) != 0 {
		return false
	}
	left, right := false, false
	for _, c := range k.corners() {
		side := sideOf(p, q, c)
		left = left || side < 0
		right = right || side > 0
	}
	return left && right
}

func (k box) corners() [4]api.Point {
	return [4]api.Point{k.a, k.b, {X: k.a.X, Y: k.b.Y}, {X: k.b.X, Y: k.a.Y}}
}

// sideOf tells by its sign on which side of the line from p to q a point lies.
func sideOf(p, q, c api.Point) int {
	return (q.X-p.X)*(c.Y-p.Y) - (q.Y-p.Y)*(c.X-p.X)
}

// winding returns the winding number of a ring that does not touch the box: that of the corner a holds for all points inside.
func (k box) winding(ring []api.Point) int {
	return polygon.WindingNumber([][]api.Point{ring}, k.a)
}

// isUniform reports whether it is plain that the rule counts all of the box as inside, or none of it; and if so, which.
func (k box) isUniform(local [][]api.Point, rule int) (uniform, full bool) {
	base := 0
	var touched [][]api.Point
	for _, ring := range local {
		if k.isTouched(ring) {
			touched = append(touched, ring)
		} else {
			base += k.winding(ring)
		}
	}
	if len(touched) == 0 {
		return true, polygon.Fills(base, rule)
	}
	// Rings that wind around points once or not at all cannot undo a positive winding number.
	covered := rule == api.NonZero && base > 0 && !slices.ContainsFunc(touched, isWild)
	return covered, covered
}

// isWild reports whether a ring may have other winding numbers than 0 and 1.
func isWild(ring []api.Point) bool {
	return !polygon.IsConvex(ring) || polygon.DoubleArea(ring) <= 0
}
