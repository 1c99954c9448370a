package mask

import (
	"math"
	"math/rand"
	"testing"

	"grisaille/api"
	"grisaille/rect"
)

func r4(x0, y0, x1, y1 int) api.Rect { return api.Rect{X0: x0, Y0: y0, X1: x1, Y1: y1} }

func mask(r api.Rect, v ...uint8) api.Mask { return api.Mask{Bounds: r, Coverage: v} }

func random(r *rand.Rand) api.Mask {
	b := rect.Canonical(r4(r.Intn(7)-3, r.Intn(7)-3, r.Intn(7)-1, r.Intn(7)-1))
	m := api.Mask{Bounds: b}
	for range rect.Area(b) {
		m.Coverage = append(m.Coverage, []uint8{0, 0, 255, uint8(r.Intn(256))}[r.Intn(4)])
	}
	return m
}

// look is the oracle of At for valid masks.
func look(m api.Mask, x, y int) int {
	if x < m.Bounds.X0 || x >= m.Bounds.X1 || y < m.Bounds.Y0 || y >= m.Bounds.Y1 {
		return 0
	}
	return int(m.Coverage[(y-m.Bounds.Y0)*(m.Bounds.X1-m.Bounds.X0)+x-m.Bounds.X0])
}

// norm is a*b/255, rounded.
func norm(a, b int) int { return (2*a*b + 255) / 510 }

// check fails unless m is valid, has the bounds and, at every pixel, the value of f.
func check(t *testing.T, what string, m api.Mask, e api.Errno, bounds api.Rect, f func(x, y int) int) {
	t.Helper()
	if e != api.OK || m.Bounds != bounds || !Valid(m) || len(m.Coverage) != cap(m.Coverage) {
		t.Fatal(what, m, e, bounds)
	}
	for y := bounds.Y0; y < bounds.Y1; y++ {
		for x := bounds.X0; x < bounds.X1; x++ {
			if look(m, x, y) != f(x, y) {
				t.Fatal(what, m, x, y, f(x, y))
			}
		}
	}
}

var invalid = []api.Mask{mask(r4(0, 0, 1, 1)), mask(r4(0, 0, 1, 1), 1, 2), mask(r4(1, 1, 1, 2)), mask(r4(2, 0, 0, 1)), mask(api.Rect{}, 1), mask(r4(0, 0, 4097, 1)), {Bounds: r4(0, 0, 257, 256), Coverage: make([]uint8, 257*256)}}

func isZero(m api.Mask) bool { return m.Bounds == api.Rect{} && len(m.Coverage) == 0 }

func TestP21_1Basics(t *testing.T) {
	for _, m := range []api.Mask{{}, mask(r4(0, 0, 2, 1), 1, 2), {Bounds: r4(0, 0, 256, 256), Coverage: make([]uint8, 65536)}} {
		if !Valid(m) {
			t.Error("Valid", m.Bounds)
		}
	}
	for _, m := range invalid {
		if Valid(m) || At(m, 0, 0) != 0 || Bounds(m) != (api.Rect{}) {
			t.Error("an invalid mask", m.Bounds)
		}
	}
	m, e := Uniform(r4(-1, 2, 3, 4), 7)
	check(t, "Uniform", m, e, r4(-1, 2, 3, 4), func(x, y int) int { return 7 })
	m, e = Uniform(r4(3, 3, 1, 9), 7)
	check(t, "Uniform of an empty rectangle", m, e, api.Rect{}, nil)
	for r, want := range map[api.Rect]api.Errno{r4(0, 0, 4097, 1): api.ErrRange, r4(0, 0, math.MaxInt, math.MaxInt): api.ErrRange, r4(0, 0, 257, 256): api.ErrLimit, r4(0, 0, 256, 256): api.OK} {
		if m, e := Uniform(r, 1); e != want || e != api.OK && !isZero(m) {
			t.Error("Uniform", r, e)
		}
	}
	r := rand.New(rand.NewSource(1))
	for range 500 {
		m, n := random(r), random(r)
		for y := -4; y < 7; y++ {
			for x := -4; x < 7; x++ {
				if int(At(m, x, y)) != look(m, x, y) {
					t.Fatal("At", m, x, y)
				}
			}
		}
		if !Equal(m, copyOf(m)) || Equal(m, n) && (m.Bounds != n.Bounds || string(m.Coverage) != string(n.Coverage)) {
			t.Fatal("Equal", m, n)
		}
		if len(m.Coverage) > 0 {
			k := copyOf(m)
			if k.Coverage[len(k.Coverage)-1]++; Equal(m, k) {
				t.Fatal("Equal", m, k)
			}
			k = copyOf(m)
			if k.Bounds.X0--; Equal(m, k) {
				t.Fatal("Equal", m, k)
			}
		}
	}
}

func TestP21_2Operations(t *testing.T) {
	if m, e := Multiply(); e != api.OK || !isZero(m) {
		t.Error("Multiply of nothing", m, e)
	}
	if m, _ := Union(mask(r4(0, 0, 1, 1), 128), mask(r4(0, 0, 1, 1), 128)); m.Coverage[0] != 192 {
		t.Error("the chapter's example", m)
	}
	good := mask(r4(0, 0, 1, 1), 5)
	for _, bad := range invalid {
		for name, f := range map[string]func() (api.Mask, api.Errno){
			"Multiply": func() (api.Mask, api.Errno) { return Multiply(good, bad) }, "Multiply of one": func() (api.Mask, api.Errno) { return Multiply(bad) }, "Union": func() (api.Mask, api.Errno) { return Union(bad, good) }, "Union with": func() (api.Mask, api.Errno) { return Union(good, bad) },
			"Invert": func() (api.Mask, api.Errno) { return Invert(bad) }, "Scale": func() (api.Mask, api.Errno) { return Scale(bad, 9) }, "Crop": func() (api.Mask, api.Errno) { return Crop(bad, r4(0, 0, 1, 1)) },
			"Dilate": func() (api.Mask, api.Errno) { return Dilate(bad, -1) }, "Erode": func() (api.Mask, api.Errno) { return Erode(bad, 99) }, "DistanceTransform": func() (api.Mask, api.Errno) { return DistanceTransform(bad) },
		} {
			if m, e := f(); e != api.ErrMask || !isZero(m) {
				t.Error(name, bad.Bounds, m, e)
			}
		}
	}
	far := mask(r4(300, 300, 301, 301), 1)
	if m, e := Union(good, far); e != api.ErrLimit || !isZero(m) {
		t.Error("Union of masks that are far apart", e)
	}
	if m, e := Union(good, mask(r4(255, 255, 256, 256), 1)); e != api.OK || len(m.Coverage) != 65536 {
		t.Error("Union of 65536 pixels", e)
	}
	r := rand.New(rand.NewSource(2))
	for range 1000 {
		a, b, c := random(r), random(r), random(r)
		k := r.Intn(256)
		crop := r4(r.Intn(7)-3, r.Intn(7)-3, r.Intn(7), r.Intn(7))
		before := [3]string{string(a.Coverage), string(b.Coverage), string(c.Coverage)}
		m, e := Multiply(a, b, c)
		check(t, "Multiply", m, e, rect.Intersect(rect.Intersect(a.Bounds, b.Bounds), c.Bounds), func(x, y int) int { return norm(norm(look(a, x, y), look(b, x, y)), look(c, x, y)) })
		m, e = Multiply(a)
		check(t, "Multiply of one", m, e, a.Bounds, func(x, y int) int { return look(a, x, y) })
		m, e = Union(a, b)
		check(t, "Union", m, e, rect.Union(a.Bounds, b.Bounds), func(x, y int) int {
			v, w := look(a, x, y), look(b, x, y)
			return v + w - norm(v, w)
		})
		m, e = Invert(a)
		check(t, "Invert", m, e, a.Bounds, func(x, y int) int { return 255 - look(a, x, y) })
		m, e = Scale(a, uint8(k))
		check(t, "Scale", m, e, a.Bounds, func(x, y int) int { return norm(k, look(a, x, y)) })
		m, e = Crop(a, crop)
		check(t, "Crop", m, e, rect.Intersect(a.Bounds, crop), func(x, y int) int { return look(a, x, y) })
		for i := range m.Coverage {
			m.Coverage[i]++
		}
		if before != [3]string{string(a.Coverage), string(b.Coverage), string(c.Coverage)} {
			t.Fatal("an argument was modified")
		}
	}
}

func TestP21_3Bounds(t *testing.T) {
	r := rand.New(rand.NewSource(3))
	for range 1000 {
		m := random(r)
		want := api.Rect{}
		for y := -4; y < 7; y++ {
			for x := -4; x < 7; x++ {
				if look(m, x, y) != 0 {
					want = rect.Union(want, r4(x, y, x+1, y+1))
				}
			}
		}
		if Bounds(m) != want {
			t.Fatal("Bounds", m, Bounds(m), want)
		}
	}
}

func TestP21_4Consequences(t *testing.T) {
	for v := range 256 {
		for w := range 256 {
			a, b := mask(r4(0, 0, 1, 1), uint8(v)), mask(r4(0, 0, 1, 1), uint8(w))
			m, _ := Multiply(a, b)
			n, _ := Multiply(b, a)
			u, _ := Union(a, b)
			s, _ := Union(b, a)
			if !Equal(m, n) || !Equal(u, s) || int(m.Coverage[0]) > min(v, w) || int(u.Coverage[0]) < max(v, w) {
				t.Fatal("Multiply or Union", v, w, m, n, u, s)
			}
		}
	}
}

// around returns the values of m at a distance of at most n.
func around(m api.Mask, x, y, n int) (low, high int) {
	low, high = 255, 0
	for j := max(y-n, m.Bounds.Y0); j <= min(y+n, m.Bounds.Y1-1); j++ {
		for i := max(x-n, m.Bounds.X0); i <= min(x+n, m.Bounds.X1-1); i++ {
			low, high = min(low, look(m, i, j)), max(high, look(m, i, j))
		}
	}
	return low, high
}

func TestP21_5P21_6Morphology(t *testing.T) {
	if m, e := DistanceTransform(mask(r4(0, 0, 4, 1), 0, 9, 9, 9)); e != api.OK || string(m.Coverage) != "\x00\x01\x02\x03" {
		t.Error("the chapter's example", m, e)
	}
	for n, want := range map[int]api.Errno{-1: api.ErrRange, 0: api.OK, 64: api.OK, 65: api.ErrRange, math.MinInt: api.ErrRange, math.MaxInt: api.ErrRange} {
		for _, f := range []func(api.Mask, int) (api.Mask, api.Errno){Dilate, Erode} {
			if m, e := f(mask(r4(0, 0, 1, 1), 5), n); e != want || e != api.OK && !isZero(m) {
				t.Error("the radius", n, m, e)
			}
		}
	}
	long, _ := Uniform(r4(0, 0, 600, 1), 3)
	long.Coverage[0] = 0
	d, _ := DistanceTransform(long)
	for i, v := range d.Coverage {
		if int(v) != min(i, 255) {
			t.Fatal("a distance above 255", i, v)
		}
	}
	point, _ := Uniform(r4(0, 0, 200, 1), 0)
	point.Coverage[100] = 9
	if m, _ := Dilate(point, 64); Bounds(m) != r4(36, 0, 165, 1) {
		t.Error("Dilate by 64", Bounds(m))
	}
	r := rand.New(rand.NewSource(4))
	for range 1000 {
		m := random(r)
		n := r.Intn(4)
		g, e := Dilate(m, n)
		check(t, "Dilate", g, e, m.Bounds, func(x, y int) int { _, high := around(m, x, y, n); return high })
		s, e := Erode(m, n)
		check(t, "Erode", s, e, m.Bounds, func(x, y int) int { low, _ := around(m, x, y, n); return low })
		d, e := DistanceTransform(m)
		check(t, "DistanceTransform", d, e, m.Bounds, func(x, y int) int {
			for n := range 12 {
				if low, _ := around(m, x, y, n); low == 0 {
					return n
				}
			}
			return 255
		})
		i, _ := Invert(m)
		i, _ = Dilate(i, n)
		i, _ = Invert(i)
		two, _ := Dilate(g, 2)
		sum, _ := Dilate(m, n+2)
		if !Equal(i, s) || !Equal(two, sum) {
			t.Fatal("duality, or dilating twice", m, n)
		}
		for k, v := range d.Coverage {
			if (int(v) > n) != (s.Coverage[k] != 0) || (v == 0) != (m.Coverage[k] == 0) {
				t.Fatal("DistanceTransform and Erode", m, n)
			}
		}
	}
}
