package vec

import (
	"math"
	"math/big"
	"math/rand"
	"testing"

	"grisaille/api"
)

const most = api.MaxCoord

func pt(x, y int) api.Point { return api.Point{X: x, Y: y} }

// some returns a coordinate that is often at an edge or out of range.
func some(r *rand.Rand) int {
	switch r.Intn(6) {
	case 0:
		return []int{most, -most, most + 1, -most - 1, math.MaxInt, math.MinInt}[r.Intn(6)]
	case 1:
		return r.Intn(2*most) - most
	}
	return r.Intn(13) - 6
}

func somePoint(r *rand.Rand) api.Point { return pt(some(r), some(r)) }

func cut(p api.Point) api.Point {
	return pt(max(-most, min(p.X, most)), max(-most, min(p.Y, most)))
}

func TestP11_1Basics(t *testing.T) {
	for _, p := range []api.Point{pt(0, 0), pt(most, -most), pt(-most, most)} {
		if !Valid(p) {
			t.Error("Valid", p)
		}
	}
	for _, p := range []api.Point{pt(most+1, 0), pt(0, most+1), pt(-most-1, 0), pt(0, math.MinInt)} {
		if Valid(p) {
			t.Error("Valid", p)
		}
	}
	r := rand.New(rand.NewSource(1))
	for range 20000 {
		p, q := somePoint(r), somePoint(r)
		a, b := cut(p), cut(q)
		if Add(p, q) != pt(a.X+b.X, a.Y+b.Y) || Sub(p, q) != pt(a.X-b.X, a.Y-b.Y) || Perp(p) != pt(-a.Y, a.X) {
			t.Fatal("Add, Sub or Perp", p, q)
		}
		if Dot(p, q) != a.X*b.X+a.Y*b.Y || Cross(p, q) != a.X*b.Y-a.Y*b.X {
			t.Fatal("Dot or Cross", p, q)
		}
		if Less(p, q) != (a.Y < b.Y || a.Y == b.Y && a.X < b.X) {
			t.Fatal("Less", p, q)
		}
	}
}

func TestP11_2LengthOrientationOnSegment(t *testing.T) {
	if Length(pt(3, 4)) != 1280 || Length(pt(-3, 4)) != 1280 || Length(pt(0, 0)) != 0 || Length(pt(1, 1)) != 362 || Length(pt(math.MaxInt, 0)) != 256*most {
		t.Error("Length")
	}
	r := rand.New(rand.NewSource(2))
	for range 20000 {
		a, b, p := somePoint(r), somePoint(r), somePoint(r)
		if r.Intn(4) == 0 {
			p = pt((cut(a).X+cut(b).X)/2, (cut(a).Y+cut(b).Y)/2)
		}
		x, y, z := cut(a), cut(b), cut(p)
		n := (y.X-x.X)*(z.Y-x.Y) - (y.Y-x.Y)*(z.X-x.X)
		want := 0
		if n > 0 {
			want = 1
		} else if n < 0 {
			want = -1
		}
		if Orientation(a, b, p) != want {
			t.Fatal("Orientation", a, b, p)
		}
		on := n == 0 && min(x.X, y.X) <= z.X && z.X <= max(x.X, y.X) && min(x.Y, y.Y) <= z.Y && z.Y <= max(x.Y, y.Y)
		if OnSegment(a, b, p) != on {
			t.Fatal("OnSegment", a, b, p)
		}
		l := new(big.Int).Mul(big.NewInt(65536), big.NewInt(int64(z.X*z.X+z.Y*z.Y)))
		if Length(p) != int(l.Sqrt(l).Int64()) {
			t.Fatal("Length", p)
		}
	}
	if !OnSegment(pt(1, 1), pt(1, 1), pt(1, 1)) || OnSegment(pt(1, 1), pt(1, 1), pt(1, 2)) || OnSegment(pt(0, 0), pt(2, 2), pt(3, 3)) {
		t.Error("OnSegment at the ends")
	}
}

func TestP11_3Lerp(t *testing.T) {
	for _, c := range []struct {
		a, b api.Point
		n, d int
		want api.Point
	}{
		{pt(0, 0), pt(3, 0), 1, 2, pt(2, 0)}, {pt(0, 0), pt(-3, 5), 1, 2, pt(-2, 3)}, {pt(3, 1), pt(0, 0), 1, 2, pt(1, 0)}, {pt(1, 2), pt(5, 6), -1, 4, pt(1, 2)}, {pt(1, 2), pt(5, 6), 9, 4, pt(5, 6)},
		{pt(1, 2), pt(5, 6), 1, 0, pt(1, 2)}, {pt(1, 2), pt(5, 6), 1, 1, pt(5, 6)}, {pt(1, 2), pt(5, 6), 1, -2, pt(1, 2)}, {pt(1, 2), pt(5, 6), 1 << 40, 1 << 40, pt(5, 6)}, {pt(1, 2), pt(5, 6), 1 << 40, 1<<40 + 1, pt(1, 2)},
		{pt(math.MaxInt, 0), pt(0, 0), 0, 0, pt(most, 0)}, {pt(-most, -most), pt(most, math.MaxInt), 1 << 39, 1 << 40, pt(0, 0)},
	} {
		if got := Lerp(c.a, c.b, c.n, c.d); got != c.want {
			t.Error("Lerp", c, got)
		}
	}
}

func TestP11_4Consequences(t *testing.T) {
	r := rand.New(rand.NewSource(3))
	for range 5000 {
		a, b, p := somePoint(r), somePoint(r), somePoint(r)
		if Orientation(a, b, p) != -Orientation(p, b, a) {
			t.Fatal("reversed points", a, b, p)
		}
		if d := 1 + r.Intn(1<<20); Lerp(a, b, 0, d) != cut(a) || Lerp(a, b, d, d) != cut(b) {
			t.Fatal("the ends of Lerp", a, b, d)
		}
	}
}
