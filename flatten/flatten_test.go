package flatten

import (
	"math"
	"math/big"
	"math/rand"
	"reflect"
	"slices"
	"testing"

	"grisaille/api"
	"grisaille/path"
	"grisaille/rational"
)

const most = api.MaxCoord

func pt(x, y int) api.Point { return api.Point{X: x, Y: y} }

func somePoint(r *rand.Rand) api.Point {
	if r.Intn(8) == 0 {
		return pt([]int{most, -most}[r.Intn(2)], r.Intn(2*most)-most)
	}
	return pt(r.Intn(4000)-2000, r.Intn(4000)-2000)
}

// count is the oracle of the number of segments.
func count(deviation int, tol int) int {
	for n := 1; ; n++ {
		limit := big.NewInt(16 * int64(tol) * int64(tol))
		limit.Mul(limit, new(big.Int).Exp(big.NewInt(int64(n)), big.NewInt(4), nil))
		if big.NewInt(int64(deviation)).Cmp(limit) <= 0 {
			return n
		}
	}
}

func second(a, b, c api.Point) int {
	x, y := a.X-2*b.X+c.X, a.Y-2*b.Y+c.Y
	return x*x + y*y
}

func TestP15_1Segments(t *testing.T) {
	if n, e := QuadSegments([3]api.Point{pt(0, 0), pt(512, 0), pt(512, 512)}, 256); n != 1 || e != api.OK {
		t.Error("the chapter's example", n, e)
	}
	r := rand.New(rand.NewSource(1))
	check := func(what string, n int, e api.Errno, want int) {
		t.Helper()
		if want > 64 && (n != 0 || e != api.ErrCurveSegments) || want <= 64 && (n != want || e != api.OK) {
			t.Fatal(what, n, e, want)
		}
	}
	for range 5000 {
		p := [4]api.Point{somePoint(r), somePoint(r), somePoint(r), somePoint(r)}
		tol := 1 + r.Intn(256)
		n, e := QuadSegments([3]api.Point(p[:3]), tol)
		check("QuadSegments", n, e, count(second(p[0], p[1], p[2]), tol))
		n, e = CubicSegments(p, tol)
		check("CubicSegments", n, e, count(9*max(second(p[0], p[1], p[2]), second(p[1], p[2], p[3])), tol))
	}
	// The deviation that 64 segments allow with tolerance 1 is 4 * 64^2 = 16384 units, exactly.
	if n, e := QuadSegments([3]api.Point{pt(0, 0), pt(0, 0), pt(16384, 0)}, 1); n != 64 || e != api.OK {
		t.Error("64 segments", n, e)
	}
	if n, e := QuadSegments([3]api.Point{pt(0, 0), pt(0, 0), pt(16384, 1)}, 1); n != 0 || e != api.ErrCurveSegments {
		t.Error("65 segments", n, e)
	}
	far := pt(0, most+1)
	for _, tol := range []int{0, 257, -1, math.MinInt, math.MaxInt} {
		if n, e := QuadSegments([3]api.Point{far}, tol); n != 0 || e != api.ErrArgument {
			t.Error("tolerance", tol, e)
		}
		if n, e := CubicSegments([4]api.Point{far}, tol); n != 0 || e != api.ErrArgument {
			t.Error("tolerance", tol, e)
		}
	}
	for i := range 4 {
		var p [4]api.Point
		p[i] = far
		if n, e := CubicSegments(p, 1); n != 0 || e != api.ErrRange {
			t.Error("an invalid point", i, e)
		}
		if l, e := Cubic(p, 256); len(l) != 0 || e != api.ErrRange {
			t.Error("an invalid point", i, e)
		}
		if i < 3 {
			if n, e := QuadSegments([3]api.Point(p[:3]), 1); n != 0 || e != api.ErrRange {
				t.Error("an invalid point", i, e)
			}
			if l, e := Quad([3]api.Point(p[:3]), 0); len(l) != 0 || e != api.ErrArgument {
				t.Error("Quad", e)
			}
		}
	}
	if l, e := Cubic([4]api.Point{pt(-most, 0), pt(most, 0), pt(-most, 0), pt(most, 0)}, 1); len(l) != 0 || e != api.ErrCurveSegments {
		t.Error("Cubic", len(l), e)
	}
}

// bernstein is the oracle of the points of a curve: a coordinate at i/n, rounded half up.
func bernstein(c []int, i, n int) int {
	degree := int64(len(c) - 1)
	sum := new(big.Rat)
	u, v := big.NewRat(int64(i), int64(n)), big.NewRat(int64(n-i), int64(n))
	for k := range c {
		term := new(big.Rat).SetInt(new(big.Int).Binomial(degree, int64(k)))
		for range k {
			term.Mul(term, u)
		}
		for range int(degree) - k {
			term.Mul(term, v)
		}
		sum.Add(sum, term.Mul(term, big.NewRat(int64(c[k]), 1)))
	}
	sum.Add(sum, big.NewRat(1, 2))
	return int(new(big.Int).Div(sum.Num(), sum.Denom()).Int64())
}

func TestP15_2Points(t *testing.T) {
	r := rand.New(rand.NewSource(2))
	for range 3000 {
		p := [4]api.Point{somePoint(r), somePoint(r), somePoint(r), somePoint(r)}
		q := [3]api.Point(p[:3])
		n := 1 + r.Intn(64)
		i := r.Intn(n + 1)
		if got := QuadAt(q, i, n); got != pt(bernstein([]int{p[0].X, p[1].X, p[2].X}, i, n), bernstein([]int{p[0].Y, p[1].Y, p[2].Y}, i, n)) {
			t.Fatal("QuadAt", q, i, n, got)
		}
		if got := CubicAt(p, i, n); got != pt(bernstein([]int{p[0].X, p[1].X, p[2].X, p[3].X}, i, n), bernstein([]int{p[0].Y, p[1].Y, p[2].Y, p[3].Y}, i, n)) {
			t.Fatal("CubicAt", p, i, n, got)
		}
		for _, c := range [][2]int{{-1, 4}, {5, 4}, {0, 0}, {0, 65}, {1, -1}, {math.MaxInt, math.MaxInt}} {
			if QuadAt(q, c[0], c[1]) != pt(0, 0) || CubicAt(p, c[0], c[1]) != pt(0, 0) {
				t.Fatal("a part that does not exist", c)
			}
		}
		tol := 1 + r.Intn(256)
		if l, e := Quad(q, tol); e == api.OK {
			for i, got := range l {
				if got != QuadAt(q, i+1, len(l)) {
					t.Fatal("Quad", q, tol)
				}
			}
			if n, _ := QuadSegments(q, tol); len(l) != n {
				t.Fatal("the number of points", q, tol)
			}
		}
		if l, e := Cubic(p, tol); e == api.OK {
			for i, got := range l {
				if got != CubicAt(p, i+1, len(l)) {
					t.Fatal("Cubic", p, tol)
				}
			}
			if n, _ := CubicSegments(p, tol); len(l) != n {
				t.Fatal("the number of points", p, tol)
			}
		}
	}
	q := [3]api.Point{pt(1, 1), pt(1, 1), pt(1, most+1)}
	if QuadAt(q, 0, 1) != pt(0, 0) || CubicAt([4]api.Point{pt(1, 1), pt(1, 1), pt(1, 1), pt(-most-1, 1)}, 0, 1) != pt(0, 0) {
		t.Error("an invalid point")
	}
}

func move(x, y int) api.Segment { return api.Segment{Verb: api.MoveTo, A: pt(x, y)} }
func line(x, y int) api.Segment { return api.Segment{Verb: api.LineTo, A: pt(x, y)} }
func quad(x, y, z, w int) api.Segment {
	return api.Segment{Verb: api.QuadTo, A: pt(x, y), B: pt(z, w)}
}

var closing = api.Segment{Verb: api.ClosePath}

func TestP15_3Path(t *testing.T) {
	for name, c := range map[string]struct {
		l    []api.Segment
		want []api.Polyline
	}{
		"empty": {nil, nil}, "a point": {[]api.Segment{move(1, 2)}, []api.Polyline{{Points: []api.Point{pt(1, 2)}}}},
		"equal points":          {[]api.Segment{move(0, 0), line(0, 0), line(1, 1), line(1, 1), line(0, 0)}, []api.Polyline{{Points: []api.Point{pt(0, 0), pt(1, 1), pt(0, 0)}}}},
		"closed":                {[]api.Segment{move(0, 0), line(1, 1), line(0, 0), line(0, 0), closing}, []api.Polyline{{Points: []api.Point{pt(0, 0), pt(1, 1)}, Closed: true}}},
		"closed point":          {[]api.Segment{move(5, 5), line(5, 5), closing}, []api.Polyline{{Points: []api.Point{pt(5, 5)}, Closed: true}}},
		"two subpaths":          {[]api.Segment{move(0, 0), line(1, 1), closing, move(0, 0), line(2, 2)}, []api.Polyline{{Points: []api.Point{pt(0, 0), pt(1, 1)}, Closed: true}, {Points: []api.Point{pt(0, 0), pt(2, 2)}}}},
		"a curve starts at the": {[]api.Segment{move(9, 9), line(0, 0), quad(0, 512, 512, 512)}, []api.Polyline{{Points: []api.Point{pt(9, 9), pt(0, 0), pt(512, 512)}}}},
	} {
		got, e := Path(c.l, 256)
		if e != api.OK || len(got) != len(c.want) {
			t.Error(name, got, e)
			continue
		}
		for i := range got {
			if !slices.Equal(got[i].Points, c.want[i].Points) || got[i].Closed != c.want[i].Closed {
				t.Error(name, got)
			}
		}
	}
	curve := []api.Segment{move(0, 0), line(7, 7), {Verb: api.CubicTo, A: pt(900, 0), B: pt(0, 900), C: pt(50, 60)}, quad(300, 300, 9, 9)}
	got, e := Path(curve, 4)
	a, _ := Cubic([4]api.Point{pt(7, 7), pt(900, 0), pt(0, 900), pt(50, 60)}, 4)
	b, _ := Quad([3]api.Point{pt(50, 60), pt(300, 300), pt(9, 9)}, 4)
	if want := slices.Concat([]api.Point{pt(0, 0), pt(7, 7)}, a, b); e != api.OK || len(got) != 1 || !slices.Equal(got[0].Points, want) || got[0].Closed {
		t.Error("curves", got, e)
	}
	wild := []api.Segment{move(-most, 0), quad(most, 0, -most, 0)}
	many := []api.Segment{move(0, 0)} // 64 curves of 64 segments each: 4097 points
	for i := range 64 {
		x := i % 2 * 1000
		many = append(many, quad(x, 8150, 1000-x, 0))
	}
	exact := append([]api.Segment{move(1000, 0)}, many[2:]...)
	for range 63 {
		exact = append(exact, line(len(exact), 1))
	}
	if got, e := Path(exact, 1); e != api.OK || len(got[0].Points) != 4096 {
		t.Error("4096 points", e)
	}
	for name, c := range map[string]struct {
		l   []api.Segment
		tol int
		e   api.Errno
	}{
		"path first": {[]api.Segment{line(0, 0)}, 0, api.ErrPath}, "tolerance": {wild, 0, api.ErrArgument}, "tolerance 257": {nil, 257, api.ErrArgument}, "a wild curve": {wild, 1, api.ErrCurveSegments},
		"too many points": {many, 1, api.ErrLimit}, "a wild curve after too many points": {append(slices.Clone(many), wild...), 1, api.ErrCurveSegments},
	} {
		if got, e := Path(c.l, c.tol); e != c.e || len(got) != 0 {
			t.Error(name, e)
		}
	}
}

func TestP15_4Consequences(t *testing.T) {
	r := rand.New(rand.NewSource(3))
	for range 1000 {
		p := [4]api.Point{somePoint(r), somePoint(r), somePoint(r), somePoint(r)}
		back := [4]api.Point{p[3], p[2], p[1], p[0]}
		tol := 1 + r.Intn(255)
		l, e := Cubic(p, tol)
		m, _ := Cubic(back, tol)
		if e != api.OK {
			continue
		}
		if l[len(l)-1] != p[3] || CubicAt(p, 0, len(l)) != p[0] || QuadAt([3]api.Point(p[:3]), 0, 5) != p[0] || QuadAt([3]api.Point(p[:3]), 5, 5) != p[2] {
			t.Fatal("the ends of a curve", p)
		}
		if len(m) != len(l) || !slices.Equal(m[:len(m)-1], func() []api.Point { k := slices.Clone(l[:len(l)-1]); slices.Reverse(k); return k }()) {
			t.Fatal("a reversed curve", p)
		}
		if n, _ := CubicSegments(p, tol+1); n > len(l) {
			t.Fatal("a larger tolerance", p, tol)
		}
	}
}

type exact = [2]api.Rat

func someRat(r *rand.Rand) api.Rat {
	f, _ := rational.FromInts(r.Intn(19)-9, 1+r.Intn(4))
	f.Num.Mag, f.Den.Mag = append(f.Num.Mag, 0), append(f.Den.Mag, 0) // not normalized
	return f
}

func someExact(r *rand.Rand) exact { return exact{someRat(r), someRat(r)} }

// eval is the oracle of the points of an exact curve.
func eval(p []exact, t api.Rat) exact {
	var q exact
	u := rational.Sub(rational.FromInt(1), t)
	binomials := map[int][]int{3: {1, 2, 1}, 4: {1, 3, 3, 1}}[len(p)]
	for i := range q {
		for k := range p {
			term := rational.Mul(rational.FromInt(binomials[k]), p[k][i])
			for range k {
				term = rational.Mul(term, t)
			}
			for range len(p) - 1 - k {
				term = rational.Mul(term, u)
			}
			q[i] = rational.Add(q[i], term)
		}
	}
	return q
}

func normal(points ...exact) bool {
	for _, p := range points {
		if !rational.IsNormalized(p[0]) || !rational.IsNormalized(p[1]) {
			return false
		}
	}
	return true
}

func TestP15_5P15_7ExactCurves(t *testing.T) {
	r := rand.New(rand.NewSource(4))
	one := rational.FromInt(1)
	for range 300 {
		p := [4]exact{someExact(r), someExact(r), someExact(r), someExact(r)}
		q := [3]exact(p[:3])
		s, u := someRat(r), someRat(r)
		if !reflect.DeepEqual(EvalQuad(q, s), eval(q[:], s)) || !reflect.DeepEqual(EvalCubic(p, s), eval(p[:], s)) {
			t.Fatal("EvalQuad or EvalCubic", p, s)
		}
		a, b := SplitQuad(q, s)
		c, d := SplitCubic(p, s)
		if !normal(slices.Concat(a[:], b[:], c[:], d[:])...) {
			t.Fatal("coordinates that are not normalized", p, s)
		}
		su := rational.Mul(s, u)
		rest := rational.Add(s, rational.Mul(rational.Sub(one, s), u))
		if !reflect.DeepEqual(eval(a[:], u), eval(q[:], su)) || !reflect.DeepEqual(eval(b[:], u), eval(q[:], rest)) {
			t.Fatal("SplitQuad", q, s)
		}
		if !reflect.DeepEqual(eval(c[:], u), eval(p[:], su)) || !reflect.DeepEqual(eval(d[:], u), eval(p[:], rest)) {
			t.Fatal("SplitCubic", p, s)
		}
		e := Elevate(q)
		if !normal(e[:]...) || !reflect.DeepEqual(eval(e[:], u), eval(q[:], u)) {
			t.Fatal("Elevate", q)
		}
	}
}

func TestP15_6P15_7Bounds(t *testing.T) {
	n := rational.FromInt
	low, high := QuadBounds([3]exact{{n(0), n(0)}, {n(2), n(4)}, {n(4), n(0)}})
	if !reflect.DeepEqual([]exact{low, high}, []exact{{n(0), n(0)}, {n(4), n(2)}}) {
		t.Error("the chapter's example", low, high)
	}
	r := rand.New(rand.NewSource(5))
	inside := func(p, low, high exact) bool {
		for i := range p {
			if rational.Cmp(p[i], low[i]) < 0 || rational.Cmp(p[i], high[i]) > 0 {
				return false
			}
		}
		return true
	}
	for range 300 {
		p := [4]exact{someExact(r), someExact(r), someExact(r), someExact(r)}
		q := [3]exact(p[:3])
		low, high := QuadBounds(q)
		cubicLow, cubicHigh := CubicBounds(p)
		if !normal(low, high, cubicLow, cubicHigh) {
			t.Fatal("bounds that are not normalized", p)
		}
		for i := range 17 {
			s, _ := rational.FromInts(i, 16)
			if !inside(eval(q[:], s), low, high) || !inside(eval(p[:], s), cubicLow, cubicHigh) {
				t.Fatal("a point is outside", p, i)
			}
		}
		half, _ := rational.FromInts(1, 2)
		a, b := SplitCubic(p, half)
		for i := range low {
			// each side of an exact box is touched by an end or by an extremum, whose parameter is known
			touched := [2]bool{}
			parameters := []api.Rat{n(0), n(1)}
			d := rational.Add(rational.Sub(q[0][i], q[1][i]), rational.Sub(q[2][i], q[1][i]))
			if s, e := rational.Quo(rational.Sub(q[0][i], q[1][i]), d); e == api.OK && rational.Cmp(s, n(0)) > 0 && rational.Cmp(s, n(1)) < 0 {
				parameters = append(parameters, s)
			}
			for _, s := range parameters {
				v := eval(q[:], s)[i]
				touched[0] = touched[0] || rational.Cmp(v, low[i]) == 0
				touched[1] = touched[1] || rational.Cmp(v, high[i]) == 0
			}
			if touched != [2]bool{true, true} {
				t.Fatal("QuadBounds are not exact", q)
			}
			touched = [2]bool{}
			for _, v := range slices.Concat(a[:], b[:]) {
				touched[0] = touched[0] || rational.Cmp(v[i], cubicLow[i]) == 0
				touched[1] = touched[1] || rational.Cmp(v[i], cubicHigh[i]) == 0
			}
			if touched != [2]bool{true, true} {
				t.Fatal("CubicBounds are not those of the control points", p)
			}
		}
	}
}

func TestPathIsValidInItself(t *testing.T) {
	l := path.RoundRect(api.Rect{X1: 4, Y1: 4}, 300)
	if got, e := Path(l, 16); e != api.OK || len(got) != 1 || !got[0].Closed {
		t.Error("a rounded rectangle", got, e)
	}
}
