package affine

import (
	"math"
	"math/rand"
	"reflect"
	"testing"

	"grisaille/api"
	"grisaille/integer"
	"grisaille/rational"
)

func rat(n, d int) api.Rat {
	return api.Rat{Num: integer.FromInt(n), Den: integer.FromInt(d)} // not normalized
}

func six(a, b, c, d, e, f int) api.Affine {
	return api.Affine{A: rat(a, 1), B: rat(b, 1), C: rat(c, 1), D: rat(d, 1), E: rat(e, 1), F: rat(f, 1)}
}

func pt(x, y int) api.Point { return api.Point{X: x, Y: y} }

func someRat(r *rand.Rand) api.Rat { return rat(r.Intn(9)-4, r.Intn(4)+1) }

func random(r *rand.Rand) api.Affine {
	return api.Affine{A: someRat(r), B: someRat(r), C: someRat(r), D: someRat(r), E: someRat(r), F: someRat(r)}
}

// wide returns 2^n.
func wide(n int) api.Rat {
	mag := make([]uint32, n/32+1)
	mag[n/32] = 1 << (n % 32)
	return api.Rat{Num: integer.New(false, mag), Den: integer.FromInt(1)}
}

func inverse(f api.Rat) api.Rat { return api.Rat{Num: f.Den, Den: f.Num} }

func isNormalized(t api.Affine) bool {
	for _, f := range []api.Rat{t.A, t.B, t.C, t.D, t.E, t.F} {
		if !rational.IsNormalized(f) {
			return false
		}
	}
	return true
}

func isZero(t api.Affine) bool { return reflect.DeepEqual(t, api.Affine{}) }

func check(t *testing.T, what string, got, want api.Affine) {
	t.Helper()
	if !isNormalized(got) || !Equal(got, want) {
		t.Fatal(what, got, want)
	}
}

func TestP12_1Construction(t *testing.T) {
	check(t, "Identity", Identity(), six(1, 0, 0, 1, 0, 0))
	check(t, "Translate", Translate(rat(2, 1), rat(6, -2)), six(1, 0, 0, 1, 2, -3))
	check(t, "Scale", Scale(rat(4, 2), rat(-3, 1)), six(2, 0, 0, -3, 0, 0))
	check(t, "Skew", Skew(rat(4, 2), rat(5, 1)), six(1, 5, 2, 1, 0, 0))
	check(t, "Translate by a number with denominator 0", Translate(api.Rat{}, rat(1, 1)), six(1, 0, 0, 1, 0, 1))
	for n, want := range map[int]api.Affine{0: six(1, 0, 0, 1, 0, 0), 1: six(0, 1, -1, 0, 0, 0), 2: six(-1, 0, 0, -1, 0, 0), 3: six(0, -1, 1, 0, 0, 0)} {
		for _, m := range []int{n, n + 4, n - 4, n - 8, math.MinInt + n} {
			check(t, "QuarterTurn", QuarterTurn(m), want)
		}
	}
	if x, y := ApplyExact(QuarterTurn(1), rat(3, 1), rat(5, 1)); rational.Cmp(x, rat(-5, 1)) != 0 || rational.Cmp(y, rat(3, 1)) != 0 {
		t.Error("a quarter turn maps (x, y) to (-y, x)")
	}
	base := Identity()
	for i, field := range []*api.Rat{&base.A, &base.B, &base.C, &base.D, &base.E, &base.F} {
		old := *field
		for f, want := range map[*api.Rat]bool{new(wide(255)): true, new(wide(256)): false, new(inverse(wide(255))): true, new(inverse(wide(256))): false, new(api.Rat{Num: wide(300).Num, Den: wide(290).Num}): true, new(api.Rat{Num: wide(300).Num}): true} {
			*field = *f
			if Valid(base) != want {
				t.Error("Valid", i, want)
			}
		}
		*field = old
	}
	r := rand.New(rand.NewSource(1))
	for range 500 {
		a := random(r)
		check(t, "Normalize", Normalize(a), a)
		b := a
		if !Equal(a, Normalize(b)) {
			t.Fatal("Equal", a)
		}
		for _, field := range []*api.Rat{&b.A, &b.B, &b.C, &b.D, &b.E, &b.F} {
			old := *field
			*field = rational.Add(old, rat(1, 7))
			if Equal(a, b) {
				t.Fatal("Equal", a, b)
			}
			*field = old
		}
	}
}

func TestP12_2ComposeAndInvert(t *testing.T) {
	if c, e := Compose(); e != api.OK || !reflect.DeepEqual(c, Identity()) {
		t.Error("Compose of nothing", c, e)
	}
	if d := Det(six(2, 3, 5, 7, 11, 13)); rational.Cmp(d, rat(-1, 1)) != 0 || !rational.IsNormalized(d) {
		t.Error("Det", d)
	}
	r := rand.New(rand.NewSource(2))
	for range 2000 {
		a, b := random(r), random(r)
		c, e := Compose(a, b)
		if e != api.OK || !isNormalized(c) {
			t.Fatal("Compose", a, b, e)
		}
		x, y := someRat(r), someRat(r)
		u, v := ApplyExact(a, x, y)
		u, v = ApplyExact(b, u, v)
		p, q := ApplyExact(c, x, y)
		if !reflect.DeepEqual([]api.Rat{u, v}, []api.Rat{p, q}) {
			t.Fatal("ApplyExact of a composition", a, b)
		}
		i, e := Invert(a)
		if rational.Cmp(rational.Mul(a.A, a.D), rational.Mul(a.B, a.C)) == 0 {
			if e != api.ErrDivideByZero || !isZero(i) {
				t.Fatal("Invert of a singular transform", a, e)
			}
			continue
		}
		one, _ := Compose(a, i)
		two, _ := Compose(i, a)
		if e != api.OK || !isNormalized(i) || !reflect.DeepEqual(one, Identity()) || !reflect.DeepEqual(two, Identity()) {
			t.Fatal("Invert", a, i, e)
		}
	}
	great := Scale(wide(200), wide(1))
	less := Scale(inverse(wide(200)), wide(1))
	over := Scale(wide(256), wide(1))
	for _, l := range [][]api.Affine{{great, great}, {great, great, less, less}, {over}, {less, less}, {Scale(rat(0, 1), rat(0, 1)), over}} {
		if c, e := Compose(l...); e != api.ErrLimit || !isZero(c) {
			t.Error("Compose beyond the limit", c, e)
		}
	}
	if _, e := Compose(great, less, great); e != api.OK {
		t.Error("Compose within the limit", e)
	}
	if i, e := Invert(over); e != api.ErrLimit || !isZero(i) {
		t.Error("Invert of an invalid transform", e)
	}
	if _, e := Invert(api.Affine{A: wide(256)}); e != api.ErrLimit {
		t.Error("Invert: the limit comes first", e)
	}
	if i, e := Invert(api.Affine{A: wide(255), D: inverse(wide(255)), E: rat(1, 3), F: wide(1)}); e != api.ErrLimit || !isZero(i) {
		t.Error("an inverse beyond the limit", e)
	}
}

func TestP12_3Apply(t *testing.T) {
	half := Scale(rat(1, 2), rat(1, 2))
	for _, c := range []struct {
		t    api.Affine
		p    api.Point
		want api.Point
		e    api.Errno
	}{
		{half, pt(3, -3), pt(2, -1), api.OK}, {half, pt(-1, 1), pt(0, 1), api.OK}, {Identity(), pt(api.MaxCoord, -api.MaxCoord), pt(api.MaxCoord, -api.MaxCoord), api.OK},
		{Identity(), pt(api.MaxCoord+1, 0), pt(0, 0), api.ErrRange}, {half, pt(0, api.MaxCoord+1), pt(0, 0), api.ErrRange}, {six(2, 0, 0, 1, 0, 0), pt(1<<19+1, 0), pt(0, 0), api.ErrRange}, {six(2, 0, 0, 1, 0, 0), pt(1<<19, 0), pt(1<<20, 0), api.OK},
		{Scale(wide(200), rat(1, 1)), pt(1, 0), pt(0, 0), api.ErrRange}, {Scale(rat(1, 1), wide(256)), pt(api.MaxCoord+1, 0), pt(0, 0), api.ErrLimit}, {Translate(rat(0, 1), rat(1, 2)), pt(0, api.MaxCoord), pt(0, 0), api.ErrRange},
		{Translate(rat(0, 1), rat(-1, 2)), pt(0, -api.MaxCoord), pt(0, -api.MaxCoord), api.OK}, {Translate(rat(1, 3), rat(2, 3)), pt(1, 1), pt(1, 2), api.OK}, {six(2, 3, 5, 7, 11, 13), pt(1, 10), pt(63, 86), api.OK},
	} {
		if q, e := Apply(c.t, c.p); q != c.want || e != c.e {
			t.Error("Apply", c, q, e)
		}
	}
}

func TestP12_4Associative(t *testing.T) {
	r := rand.New(rand.NewSource(3))
	for range 500 {
		a, b, c := random(r), random(r), random(r)
		all, _ := Compose(a, b, c)
		ab, _ := Compose(a, b)
		bc, _ := Compose(b, c)
		first, _ := Compose(ab, c)
		second, _ := Compose(a, bc)
		if !reflect.DeepEqual(all, first) || !reflect.DeepEqual(all, second) {
			t.Fatal("Compose is not associative", a, b, c)
		}
	}
}

func TestP12_5P12_7FromTriangles(t *testing.T) {
	m, e := FromTriangles([3]api.Point{pt(0, 0), pt(1, 0), pt(0, 1)}, [3]api.Point{pt(5, 5), pt(7, 5), pt(5, 8)})
	check(t, "the chapter's example", m, six(2, 0, 0, 3, 5, 5))
	if e != api.OK {
		t.Error(e)
	}
	r := rand.New(rand.NewSource(4))
	triangle := func() [3]api.Point {
		var l [3]api.Point
		for i := range l {
			l[i] = pt(r.Intn(9)-4, r.Intn(9)-4)
			if r.Intn(9) == 0 {
				l[i] = pt(r.Intn(2*api.MaxCoord)-api.MaxCoord, api.MaxCoord)
			}
		}
		return l
	}
	for range 1000 {
		a, b, c := triangle(), triangle(), triangle()
		m, e := FromTriangles(a, b)
		if (a[1].X-a[0].X)*(a[2].Y-a[0].Y) == (a[1].Y-a[0].Y)*(a[2].X-a[0].X) {
			if e != api.ErrDivideByZero || !isZero(m) {
				t.Fatal("points on a line", a, m, e)
			}
			continue
		}
		if e != api.OK || !isNormalized(m) {
			t.Fatal("FromTriangles", a, b, e)
		}
		for i := range a {
			x, y := ApplyExact(m, rat(a[i].X, 1), rat(a[i].Y, 1))
			if rational.Cmp(x, rat(b[i].X, 1)) != 0 || rational.Cmp(y, rat(b[i].Y, 1)) != 0 {
				t.Fatal("a point is not mapped", a, b, i)
			}
		}
		if n, e := FromTriangles(b, c); e == api.OK {
			both, _ := Compose(m, n)
			direct, _ := FromTriangles(a, c)
			check(t, "FromTriangles composed", both, direct)
		}
	}
	good := [3]api.Point{pt(0, 0), pt(1, 0), pt(0, 1)}
	for i := range good {
		bad := [3]api.Point{}
		bad[i] = pt(0, api.MaxCoord+1)
		if m, e := FromTriangles(bad, good); e != api.ErrRange || !isZero(m) {
			t.Error("an invalid point", i, e)
		}
		if m, e := FromTriangles(good, bad); e != api.ErrRange || !isZero(m) {
			t.Error("an invalid point", i, e)
		}
	}
}

func TestP12_6P12_7Decompose(t *testing.T) {
	r := rand.New(rand.NewSource(5))
	for range 2000 {
		a := random(r)
		if r.Intn(3) == 0 {
			a.A = api.Rat{}
		}
		l, e := Decompose(a)
		if rational.Cmp(Det(a), rat(0, 1)) == 0 {
			if e != api.ErrDivideByZero || len(l) != 0 {
				t.Fatal("Decompose of a singular transform", a, e)
			}
			continue
		}
		if e != api.OK || len(l) != 5 {
			t.Fatal("Decompose", a, e)
		}
		composed, _ := Compose(l...)
		check(t, "the composition of the parts", composed, a)
		q := 0
		if rational.Cmp(a.A, rat(0, 1)) == 0 {
			q = 1
		}
		want := []api.Affine{QuarterTurn(q), Skew(l[1].C, api.Rat{}), Scale(l[2].A, l[2].D), Skew(api.Rat{}, l[3].B), Translate(a.E, a.F)}
		if !reflect.DeepEqual(l, want) || q == 1 && rational.Cmp(l[1].C, rat(0, 1)) != 0 {
			t.Fatal("the form of the parts", a, l)
		}
	}
	if l, e := Decompose(api.Affine{A: wide(256)}); e != api.ErrLimit || len(l) != 0 {
		t.Error("Decompose of an invalid transform", e)
	}
	if l, e := Decompose(api.Affine{A: inverse(wide(200)), D: rat(1, 1), C: wide(200)}); e != api.ErrLimit || len(l) != 0 {
		t.Error("a part beyond the limit", e)
	}
}
