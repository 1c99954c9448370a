package area

import (
	"grisaille/api"
	"grisaille/polygon"
	"grisaille/rational"
)

// A box is the open rectangle between two corners. Most boxes are pixels and meet few of the edges of a drawing, so rings are simplified before anything exact is computed.
type box struct{ a, b api.Point }

func (k box) isEmpty() bool {
	return k.a.X >= k.b.X || k.a.Y >= k.b.Y
}

func (k box) area() api.Rat {
	return rational.Mul(rational.FromInt(k.b.X-k.a.X), rational.FromInt(k.b.Y-k.a.Y))
}

// Sides of a box, as bits.
const (
	beyondLeft = 1 << iota
	beyondRight
	beyondTop
	beyondBottom
)

// sides returns the sides of the box on or beyond which p lies.
func (k box) sides(p api.Point) int {
	s := 0
	if p.X <= k.a.X {
		s |= beyondLeft
	}
	if p.X >= k.b.X {
		s |= beyondRight
	}
	if p.Y <= k.a.Y {
		s |= beyondTop
	}
	if p.Y >= k.b.Y {
		s |= beyondBottom
	}
	return s
}

// localRings returns rings with the same winding numbers inside the box, without those that have none there.
func (k box) localRings(l [][]api.Point) [][]api.Point {
	var local [][]api.Point
	for _, ring := range l {
		ring = k.reduce(ring)
		if len(ring) > 2 && (k.isTouched(ring) || k.winding(ring) != 0) {
			local = append(local, ring)
		}
	}
	return local
}

// reduce leaves out vertices. One that lies beyond the same side of the box as both of its neighbours spans, with them, a triangle outside of the box, so that no winding number in the box depends on it.
func (k box) reduce(ring []api.Point) []api.Point {
	var kept []api.Point
	var sides []int
	for _, p := range ring {
		s := k.sides(p)
		for n := len(kept); n >= 2 && sides[n-2]&sides[n-1]&s != 0; n-- {
			kept, sides = kept[:n-1], sides[:n-1]
		}
		kept, sides = append(kept, p), append(sides, s)
	}
	return kept
}

// manyVertices is the number of vertices from which on a box is split: the time for a box grows much faster than their number.
const manyVertices = 16

// split cuts the box in two, if it meets many edges and there is less to do for the parts.
func (k box) split(local [][]api.Point, rule int) (one, two box, ok bool) {
	vertices := countVertices(local)
	if vertices < manyVertices {
		return box{}, box{}, false
	}
	for _, parts := range [2][2]box{k.columns(), k.rows()} {
		if parts[0].isEmpty() {
			continue // the box is one unit long
		}
		if parts[0].effort(local, rule)+parts[1].effort(local, rule) < vertices+vertices/2 {
			return parts[0], parts[1], true
		}
	}
	return box{}, box{}, false
}

// effort returns the number of vertices that matter for the area in the box.
func (k box) effort(l [][]api.Point, rule int) int {
	local := k.localRings(l)
	if uniform, _ := k.isUniform(local, rule); uniform {
		return 0
	}
	return countVertices(local)
}

// columns returns the left and the right half of the box.
func (k box) columns() [2]box {
	x := k.a.X + (k.b.X-k.a.X)/2
	return [2]box{{k.a, api.Point{X: x, Y: k.b.Y}}, {api.Point{X: x, Y: k.a.Y}, k.b}}
}

// rows returns the upper and the lower half of the box.
func (k box) rows() [2]box {
	y := k.a.Y + (k.b.Y-k.a.Y)/2
	return [2]box{{k.a, api.Point{X: k.b.X, Y: y}}, {api.Point{X: k.a.X, Y: y}, k.b}}
}

func countVertices(l [][]api.Point) int {
	n := 0
	for _, ring := range l {
		n += len(ring)
	}
	return n
}

// isTouched reports whether an edge of the ring has a point inside the box.
func (k box) isTouched(ring []api.Point) bool {
	p := ring[len(ring)-1]
	for _, q := range ring {
		if k.sides(p)&k.sides(q) == 0 && k.isSplit(p, q) {
			return true
		}
		p = q
	}
	return false
}

// isSplit reports whether the line through p and q has corners of the box on both of its sides.
func (k box) isSplit(p, q api.Point) bool {
	left, right := false, false
	for _, c := range [4]api.Point{k.a, k.b, {X: k.a.X, Y: k.b.Y}, {X: k.b.X, Y: k.a.Y}} {
		side := (q.X-p.X)*(c.Y-p.Y) - (q.Y-p.Y)*(c.X-p.X)
		left = left || side < 0
		right = right || side > 0
	}
	return left && right
}

// winding returns the winding number of a ring that does not touch the box: that of the corner a holds for all points inside.
func (k box) winding(ring []api.Point) int {
	return polygon.WindingNumber([][]api.Point{ring}, k.a)
}

// isUniform reports whether it is plain that the rule counts all of the box as inside, or none of it; and if so, which.
func (k box) isUniform(local [][]api.Point, rule int) (uniform, full bool) {
	base, uniform, positive := 0, true, true
	for _, ring := range local {
		if !k.isTouched(ring) {
			base += k.winding(ring)
			continue
		}
		uniform = false
		positive = positive && polygon.IsConvex(ring) && polygon.DoubleArea(ring) > 0
	}
	if uniform {
		return true, polygon.Fills(base, rule)
	}
	// Rings that wind around points once or not at all cannot undo a positive winding number.
	covered := rule == api.NonZero && base > 0 && positive
	return covered, covered
}
