package linejoin

import (
	"math"
	"math/big"
	"math/rand"
	"slices"
	"testing"

	"grisaille/api"
	"grisaille/polygon"
	"grisaille/strokegeom"
)

const most = api.MaxCoord

func pt(x, y int) api.Point { return api.Point{X: x, Y: y} }

func somePoint(r *rand.Rand) api.Point {
	if r.Intn(6) == 0 {
		return pt(r.Intn(2*most)-most, []int{most, -most, 0}[r.Intn(3)])
	}
	return pt(r.Intn(1200)-600, r.Intn(1200)-600)
}

func neg(p api.Point) api.Point { return pt(-p.X, -p.Y) }

func TestP23_1OuterNormals(t *testing.T) {
	if n, m, ok := OuterNormals(pt(0, 0), pt(512, 0), pt(512, 512), 256); n != pt(0, -128) || m != pt(128, 0) || !ok {
		t.Error("the chapter's example", n, m, ok)
	}
	if n, m, ok := OuterNormals(pt(0, 0), pt(512, 0), pt(512, -512), 256); n != pt(0, 128) || m != pt(128, 0) || !ok {
		t.Error("the other side", n, m, ok)
	}
	a, v, b := pt(0, 0), pt(5, 0), pt(5, 5)
	far := pt(0, most+1)
	for name, c := range map[string]struct {
		a, v, b api.Point
		width   int
	}{"straight": {a, v, pt(9, 0), 8}, "back": {a, v, a, 8}, "a is v": {v, v, b, 8}, "b is v": {a, v, v, 8}, "far a": {far, v, b, 8}, "far v": {a, far, b, 8}, "far b": {a, v, far, 8}, "width 0": {a, v, b, 0}, "width 16385": {a, v, b, 16385}} {
		if n, m, ok := OuterNormals(c.a, c.v, c.b, c.width); n != pt(0, 0) || m != pt(0, 0) || ok {
			t.Error(name, n, m, ok)
		}
	}
	r := rand.New(rand.NewSource(1))
	for range 3000 {
		a, v, b, width := somePoint(r), somePoint(r), somePoint(r), 1+r.Intn(16384)
		if r.Intn(2) == 0 { // near each other, such that the cross product is small
			a, v, b = pt(a.X%3, a.Y%3), pt(v.X%3, v.Y%3), pt(b.X%3, b.Y%3)
		}
		u, w := pt(v.X-a.X, v.Y-a.Y), pt(b.X-v.X, b.Y-v.Y)
		cross := u.X*w.Y - u.Y*w.X
		n, m, ok := OuterNormals(a, v, b, width)
		if ok != (cross != 0) {
			t.Fatal("OuterNormals", a, v, b)
		}
		if cross > 0 {
			n, m = neg(n), neg(m)
		}
		if ok && (n != strokegeom.OffsetVector(u, width) || m != strokegeom.OffsetVector(w, width)) {
			t.Fatal("OuterNormals", a, v, b)
		}
	}
}

// tip is the oracle of MiterTip for valid arguments.
func tip(n, m api.Point, width, limit int) (api.Point, bool) {
	s := pt(n.X+m.X, n.Y+m.Y)
	q := big.NewInt(int64(s.X*s.X + s.Y*s.Y))
	left := big.NewInt(int64(256 * width))
	left.Mul(left, left)
	right := big.NewInt(int64(limit))
	right.Mul(right, right).Mul(right, q)
	if q.Sign() == 0 || left.Cmp(right) > 0 {
		return pt(0, 0), false
	}
	at := func(c int) int {
		f := big.NewRat(int64(c)*int64(width*width), 1)
		f.Quo(f, new(big.Rat).SetInt(new(big.Int).Lsh(q, 1)))
		k, half := new(big.Rat).Abs(f), big.NewRat(1, 2)
		k.Add(k, half)
		z := new(big.Int).Quo(k.Num(), k.Denom())
		return int(z.Int64()) * f.Sign()
	}
	return pt(at(s.X), at(s.Y)), true
}

func TestP23_2MiterTip(t *testing.T) {
	if p, ok := MiterTip(pt(0, -128), pt(128, 0), 256, 1024); p != pt(128, -128) || !ok {
		t.Error("the chapter's example", p, ok)
	}
	// Half the width over the length of s, 128/181, against the limit: (256*256)^2 <= limit^2 * 32768 from 363 on.
	if _, ok := MiterTip(pt(0, -128), pt(128, 0), 256, 362); ok {
		t.Error("below the limit")
	}
	if _, ok := MiterTip(pt(0, -128), pt(128, 0), 256, 363); !ok {
		t.Error("at the limit")
	}
	if _, ok := MiterTip(pt(0, 128), pt(0, 128), 256, 256); !ok {
		t.Error("equality counts")
	}
	far := pt(most+1, 0)
	for name, c := range map[string]struct {
		n, m         api.Point
		width, limit int
	}{"opposite": {pt(3, 4), pt(-3, -4), 10, 65536}, "zero": {pt(0, 0), pt(0, 0), 10, 65536}, "far n": {far, pt(1, 1), 10, 1000}, "far m": {pt(1, 1), far, 10, 1000}, "width 0": {pt(9, 9), pt(9, 8), 0, 1000}, "width 16385": {pt(9, 9), pt(9, 8), 16385, 65536}, "limit 255": {pt(9, 9), pt(9, 8), 1, 255}, "limit 65537": {pt(9, 9), pt(9, 8), 1, 65537}, "negative limit": {pt(9, 9), pt(9, 8), 1, math.MinInt}} {
		if p, ok := MiterTip(c.n, c.m, c.width, c.limit); p != pt(0, 0) || ok {
			t.Error(name, p, ok)
		}
	}
	r := rand.New(rand.NewSource(2))
	for range 10000 {
		n, m, width, limit := somePoint(r), somePoint(r), 1+r.Intn(16384), 256+r.Intn(65281)
		if r.Intn(2) == 0 {
			n, m, width, limit = pt(n.X%9, n.Y%9), pt(m.X%9, m.Y%9), 1+r.Intn(30), 256+r.Intn(1000)
		}
		got, ok := MiterTip(n, m, width, limit)
		want, valid := tip(n, m, width, limit)
		if got != want || ok != valid {
			t.Fatal("MiterTip", n, m, width, limit, got, ok, want, valid)
		}
		if _, more := MiterTip(n, m, width, min(limit+500, 65536)); ok && !more {
			t.Fatal("a greater limit removes a tip", n, m, width, limit)
		}
	}
}

func TestP23_3P23_4Join(t *testing.T) {
	a, v, b := pt(0, 0), pt(512, 0), pt(512, 512)
	style := api.StrokeStyle{Width: 256, Join: api.Miter, Cap: api.Butt, MiterLimit: 1024}
	with := func(join, limit int) api.StrokeStyle {
		s := style
		s.Join, s.MiterLimit = join, limit
		return s
	}
	one := func(l [][]api.Point, want ...api.Point) bool { return len(l) == 1 && slices.Equal(l[0], want) }
	if l := Join(a, v, b, style); !one(l, v, pt(512, -128), pt(640, -128), pt(640, 0)) {
		t.Error("Miter", l)
	}
	for _, s := range []api.StrokeStyle{with(api.Miter, 362), with(api.Bevel, 1024)} {
		if l := Join(a, v, b, s); !one(l, v, pt(512, -128), pt(640, 0)) {
			t.Error("Bevel", l)
		}
	}
	if l := Join(a, v, b, with(api.Round, 1024)); !one(l, strokegeom.RoundDisc(v, 256)...) {
		t.Error("Round", l)
	}
	if l := Join(a, v, pt(900, 0), with(api.Round, 1024)); len(l) != 1 {
		t.Error("Round without an outer side", l)
	}
	far := pt(0, most+1)
	bad := style
	bad.Cap = 0
	for name, l := range map[string][][]api.Point{
		"straight": Join(a, v, pt(900, 0), style), "back": Join(a, v, a, style), "v is a": Join(v, v, b, style), "v is b": Join(a, v, v, with(api.Round, 1024)), "far a": Join(far, v, b, style), "far a, round": Join(far, v, b, with(api.Round, 1024)), "far v": Join(a, far, b, style), "far b": Join(a, v, far, with(api.Round, 1024)),
		"style": Join(a, v, b, bad), "a disc beyond the range": Join(a, pt(most, 0), b, with(api.Round, 1024)), "a tip beyond the range": Join(pt(0, most), pt(most, most), pt(most, 0), style),
	} {
		if len(l) != 0 {
			t.Error(name, l)
		}
	}
	r := rand.New(rand.NewSource(3))
	for range 3000 {
		a, v, b := somePoint(r), somePoint(r), somePoint(r)
		s := with([]int{api.Miter, api.Bevel, api.Round}[r.Intn(3)], 256+r.Intn(2000))
		s.Width = 1 + r.Intn(400)
		l, back := Join(a, v, b, s), Join(b, v, a, s)
		if len(l) != len(back) {
			t.Fatal("the reversed way", a, v, b, s)
		}
		for i := range l {
			p, q := slices.Clone(l[i]), slices.Clone(back[i])
			slices.SortFunc(p, func(a, b api.Point) int { return (a.X-b.X)*4*most + a.Y - b.Y })
			slices.SortFunc(q, func(a, b api.Point) int { return (a.X-b.X)*4*most + a.Y - b.Y })
			if !slices.Equal(p, q) || polygon.DoubleArea(l[i]) <= 0 {
				t.Fatal("the vertices of the reversed way", a, v, b, s)
			}
		}
		if n, m, ok := OuterNormals(a, v, b, s.Width); ok && s.Join != api.Round && v != a && v != b {
			ring := []api.Point{v, pt(v.X+n.X, v.Y+n.Y)}
			if p, ok := tip(n, m, s.Width, s.MiterLimit); ok && s.Join == api.Miter {
				ring = append(ring, pt(v.X+p.X, v.Y+p.Y))
			}
			ring = polygon.Orient(append(ring, pt(v.X+m.X, v.Y+m.Y)))
			if len(ring) == 0 && len(l) != 0 || len(ring) > 0 && !one(l, ring...) {
				t.Fatal("Join", a, v, b, s, l, ring)
			}
		}
	}
}
