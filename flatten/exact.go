package flatten

import (
	"grisaille/api"
	"grisaille/rational"
)

// An exactPoint is a pair of rational coordinates, X and then Y.
type exactPoint = [2]api.Rat

// mix returns the point at the parameter t of the way from a to b.
func mix(a, b exactPoint, t api.Rat) exactPoint {
	var p exactPoint
	for i := range p {
		p[i] = rational.Add(a[i], rational.Mul(t, rational.Sub(b[i], a[i])))
	}
	return p
}

func normalize(a exactPoint) exactPoint {
	return exactPoint{rational.Normalize(a[0]), rational.Normalize(a[1])}
}

// EvalQuad returns the point of a quadratic curve at t.
func EvalQuad(p [3][2]api.Rat, t api.Rat) [2]api.Rat {
	_, second := SplitQuad(p, t)
	return second[0]
}

// EvalCubic returns the point of a cubic curve at t.
func EvalCubic(p [4][2]api.Rat, t api.Rat) [2]api.Rat {
	_, second := SplitCubic(p, t)
	return second[0]
}

// SplitQuad divides a quadratic curve at t by de Casteljau's algorithm.
func SplitQuad(p [3][2]api.Rat, t api.Rat) ([3][2]api.Rat, [3][2]api.Rat) {
	a, b := mix(p[0], p[1], t), mix(p[1], p[2], t)
	middle := mix(a, b, t)
	return [3][2]api.Rat{normalize(p[0]), a, middle}, [3][2]api.Rat{copyPoint(middle), b, normalize(p[2])}
}

// SplitCubic divides a cubic curve at t by de Casteljau's algorithm.
func SplitCubic(p [4][2]api.Rat, t api.Rat) ([4][2]api.Rat, [4][2]api.Rat) {
	inner := [3]exactPoint{p[1], p[2], p[3]}
	left, _ := SplitQuad([3]exactPoint{p[0], p[1], p[2]}, t)
	_, right := SplitQuad(inner, t)
	middle := mix(left[2], right[0], t)
	return [4][2]api.Rat{left[0], left[1], left[2], middle}, [4][2]api.Rat{copyPoint(middle), right[0], right[1], right[2]}
}

// copyPoint returns the point in new memory, such that two curves of one result share none.
func copyPoint(p exactPoint) exactPoint {
	return normalize(p)
}

// enclose returns the corners of the smallest box around the points.
func enclose(points ...exactPoint) (exactPoint, exactPoint) {
	low, high := normalize(points[0]), normalize(points[0])
	for _, p := range points[1:] {
		for i, f := range p {
			if rational.Cmp(f, low[i]) < 0 {
				low[i] = rational.Normalize(f)
			}
			if rational.Cmp(f, high[i]) > 0 {
				high[i] = rational.Normalize(f)
			}
		}
	}
	return low, high
}

// QuadBounds returns the corners of the exact bounding box of a quadratic curve.
func QuadBounds(p [3][2]api.Rat) ([2]api.Rat, [2]api.Rat) {
	low, high := enclose(p[0], p[2])
	for i := range low {
		t, ok := extremum(p[0][i], p[1][i], p[2][i])
		if !ok {
			continue
		}
		value := EvalQuad(p, t)[i]
		if rational.Cmp(value, low[i]) < 0 {
			low[i] = value
		}
		if rational.Cmp(value, high[i]) > 0 {
			high[i] = rational.Normalize(value)
		}
	}
	return low, high
}

// extremum returns the parameter at which a coordinate has its extremum, if it lies strictly between 0 and 1.
func extremum(a, b, c api.Rat) (api.Rat, bool) {
	fall := rational.Sub(a, b)
	t, e := rational.Quo(fall, rational.Add(fall, rational.Sub(c, b)))
	if e != api.OK || rational.Cmp(t, rational.FromInt(0)) <= 0 || rational.Cmp(t, rational.FromInt(1)) >= 0 {
		return api.Rat{}, false
	}
	return t, true
}

// CubicBounds returns the bounding box of the control points of both halves of a cubic curve.
func CubicBounds(p [4][2]api.Rat) ([2]api.Rat, [2]api.Rat) {
	half, _ := rational.FromInts(1, 2)
	left, right := SplitCubic(p, half)
	return enclose(append(left[:], right[:]...)...)
}

// Elevate returns the cubic curve that is the same curve as a quadratic one.
func Elevate(p [3][2]api.Rat) [4][2]api.Rat {
	twoThirds, _ := rational.FromInts(2, 3)
	return [4][2]api.Rat{normalize(p[0]), mix(p[0], p[1], twoThirds), mix(p[2], p[1], twoThirds), normalize(p[2])}
}
