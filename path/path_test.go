package path

import (
	"math"
	"math/rand"
	"slices"
	"testing"

	"grisaille/affine"
	"grisaille/api"
	"grisaille/rational"
)

func pt(x, y int) api.Point { return api.Point{X: x, Y: y} }

func move(x, y int) api.Segment { return api.Segment{Verb: api.MoveTo, A: pt(x, y)} }
func line(x, y int) api.Segment { return api.Segment{Verb: api.LineTo, A: pt(x, y)} }
func quad(x, y, z, w int) api.Segment {
	return api.Segment{Verb: api.QuadTo, A: pt(x, y), B: pt(z, w)}
}
func cubic(x, y, z, w, u, v int) api.Segment {
	return api.Segment{Verb: api.CubicTo, A: pt(x, y), B: pt(z, w), C: pt(u, v)}
}

var closing = api.Segment{Verb: api.ClosePath}

const most = api.MaxCoord

// random returns a valid path.
func random(r *rand.Rand) []api.Segment {
	n := func() int { return r.Intn(200) - 100 }
	var l []api.Segment
	for range r.Intn(4) {
		l = append(l, move(n(), n()))
		k := r.Intn(4)
		for range k {
			l = append(l, []api.Segment{line(n(), n()), quad(n(), n(), n(), n()), cubic(n(), n(), n(), n(), n(), n())}[r.Intn(3)])
		}
		if k > 0 && r.Intn(2) == 0 {
			l = append(l, closing)
		}
	}
	return l
}

func TestP13_1Check(t *testing.T) {
	full := append([]api.Segment{move(0, 0)}, slices.Repeat([]api.Segment{line(1, 1)}, 255)...)
	for name, c := range map[string]struct {
		l []api.Segment
		e api.Errno
		i int
	}{
		"empty": {nil, api.OK, 0}, "full": {full, api.OK, 0}, "long": {append(slices.Clone(full), api.Segment{}), api.ErrLimit, 256},
		"all verbs":    {[]api.Segment{move(1, 2), line(3, 4), quad(1, 2, 3, 4), cubic(1, 2, 3, 4, 5, 6), closing, move(0, 0), move(0, 0), line(1, 1)}, api.OK, 0},
		"unknown verb": {[]api.Segment{move(0, 0), {Verb: 6}}, api.ErrArgument, 1}, "verb 0": {[]api.Segment{{}}, api.ErrArgument, 0}, "negative verb": {[]api.Segment{{Verb: -1}}, api.ErrArgument, 0},
		"no move": {[]api.Segment{line(0, 0)}, api.ErrPath, 0}, "close first": {[]api.Segment{closing}, api.ErrPath, 0}, "line after close": {[]api.Segment{move(0, 0), line(1, 1), closing, line(0, 0)}, api.ErrPath, 3},
		"close twice":      {[]api.Segment{move(0, 0), line(1, 1), closing, closing}, api.ErrPath, 3},
		"close after move": {[]api.Segment{move(0, 0), closing}, api.ErrPath, 1}, "at the limit": {[]api.Segment{move(most, -most), cubic(most, most, most, most, -most, most)}, api.OK, 0},
		"position before range": {[]api.Segment{line(most+1, 0)}, api.ErrPath, 0}, "range": {[]api.Segment{move(0, 0), line(0, -most-1)}, api.ErrRange, 1},
		"range of B": {[]api.Segment{move(0, 0), quad(0, 0, 0, most+1)}, api.ErrRange, 1}, "range of C": {[]api.Segment{move(0, 0), cubic(0, 0, 0, 0, most+1, 0)}, api.ErrRange, 1},
		"unused B": {[]api.Segment{{Verb: api.MoveTo, B: pt(0, 1)}}, api.ErrRange, 0}, "unused C": {[]api.Segment{move(0, 0), {Verb: api.QuadTo, C: pt(1, 0)}}, api.ErrRange, 1},
		"unused A": {[]api.Segment{move(0, 0), line(1, 1), {Verb: api.ClosePath, A: pt(1, 0)}}, api.ErrRange, 2}, "line with C": {[]api.Segment{move(0, 0), {Verb: api.LineTo, C: pt(0, math.MinInt)}}, api.ErrRange, 1},
		"the first one": {[]api.Segment{move(0, 0), line(most+1, 0), {Verb: 9}}, api.ErrRange, 1},
	} {
		if e, i := Check(c.l); e != c.e || i != c.i || Valid(c.l) != (c.e == api.OK) {
			t.Error(name, e, i)
		}
	}
}

func TestP13_2BoundsCountEqual(t *testing.T) {
	l := []api.Segment{move(1, 2), cubic(-5, 3, 9, 11, 4, -7), quad(0, 12, 2, 2), closing, move(3, 3)}
	if low, high, ok := Bounds(l); low != pt(-5, -7) || high != pt(9, 12) || !ok {
		t.Error("Bounds", low, high, ok)
	}
	if low, high, ok := Bounds([]api.Segment{move(4, 5)}); low != pt(4, 5) || high != low || !ok {
		t.Error("Bounds of a point", low, high, ok)
	}
	for _, bad := range [][]api.Segment{nil, {line(1, 1)}} {
		if low, high, ok := Bounds(bad); low != pt(0, 0) || high != pt(0, 0) || ok {
			t.Error("Bounds of", bad)
		}
	}
	if CountSubpaths(l) != 2 || CountSubpaths(nil) != 0 || CountSubpaths([]api.Segment{line(1, 1)}) != 0 || CountSubpaths([]api.Segment{move(0, 0), move(0, 0)}) != 2 {
		t.Error("CountSubpaths")
	}
	for i := range l {
		for _, change := range []func(s *api.Segment){func(s *api.Segment) { s.Verb++ }, func(s *api.Segment) { s.A.X++ }, func(s *api.Segment) { s.B.Y++ }, func(s *api.Segment) { s.C.X++ }} {
			m := slices.Clone(l)
			change(&m[i])
			if Equal(l, m) {
				t.Error("Equal", l[i], m[i])
			}
		}
	}
	if !Equal(l, slices.Clone(l)) || Equal(l, l[:4]) || !Equal(nil, []api.Segment{}) {
		t.Error("Equal")
	}
}

func TestP13_3Transform(t *testing.T) {
	two := rational.FromInt(2)
	double := affine.Scale(two, two)
	l := []api.Segment{move(1, 2), line(3, 4), quad(1, 2, 3, 4), cubic(1, 2, 3, 4, 5, 6), closing}
	want := []api.Segment{move(2, 4), line(6, 8), quad(2, 4, 6, 8), cubic(2, 4, 6, 8, 10, 12), closing}
	if m, e := Transform(l, double); e != api.OK || !Equal(m, want) {
		t.Error("Transform", m, e)
	}
	moved := affine.Translate(two, rational.FromInt(0))
	if m, e := Transform(l[:5], moved); e != api.OK || m[4] != closing || m[1] != line(5, 4) {
		t.Error("unused points stay (0, 0)", m, e)
	}
	huge := affine.Scale(api.Rat{Num: api.Int{Mag: []uint32{0, 0, 0, 0, 0, 0, 0, 0, 1}}, Den: two.Num}, two)
	for _, c := range []struct {
		l []api.Segment
		t api.Affine
		e api.Errno
	}{{[]api.Segment{closing}, double, api.ErrPath}, {[]api.Segment{closing}, huge, api.ErrPath}, {[]api.Segment{move(most, 0)}, double, api.ErrRange}, {l, huge, api.OK}, {nil, double, api.OK}} {
		m, e := Transform(c.l, c.t)
		if c.e == api.OK && len(c.l) > 0 {
			c.e = func() api.Errno { _, e := affine.Apply(c.t, c.l[0].A); return e }()
		}
		if e != c.e || e != api.OK && len(m) != 0 {
			t.Error("Transform", c.l, m, e)
		}
	}
	if _, e := Transform([]api.Segment{move(0, 0), cubic(0, 0, 0, 0, most, 0)}, double); e != api.ErrRange {
		t.Error("the last point of a curve", e)
	}
}

func TestP13_4ReverseAndFromRect(t *testing.T) {
	m, e := Reverse([]api.Segment{move(0, 0), line(2, 0), line(2, 2), closing})
	if e != api.OK || !Equal(m, []api.Segment{move(2, 2), line(2, 0), line(0, 0), closing}) {
		t.Error("the chapter's example", m, e)
	}
	m, e = Reverse([]api.Segment{move(9, 9), move(0, 0), quad(1, 2, 3, 4), cubic(5, 6, 7, 8, 9, 10), move(1, 1)})
	if e != api.OK || !Equal(m, []api.Segment{move(9, 9), move(9, 10), cubic(7, 8, 5, 6, 3, 4), quad(1, 2, 0, 0), move(1, 1)}) {
		t.Error("curves", m, e)
	}
	if m, e := Reverse([]api.Segment{closing}); e != api.ErrPath || len(m) != 0 {
		t.Error("Reverse of an invalid path", e)
	}
	want := []api.Segment{move(256, 512), line(768, 512), line(768, 1280), line(256, 1280), closing}
	if m := FromRect(api.Rect{X0: 1, Y0: 2, X1: 3, Y1: 5}); !Equal(m, want) {
		t.Error("FromRect", m)
	}
	for _, r := range []api.Rect{{}, {X1: 1}, {Y1: 1}, {X0: 2, X1: 1, Y1: 1}, {X1: 4097, Y1: 1}, {X0: math.MinInt, X1: 1, Y1: 1}} {
		if len(FromRect(r)) != 0 || len(RoundRect(r, 5)) != 0 {
			t.Error("an empty rectangle", r)
		}
	}
	if !Valid(FromRect(api.Rect{X0: -4096, Y0: -4096, X1: 4096, Y1: 4096})) {
		t.Error("the largest rectangle")
	}
}

func TestP13_5P13_8Consequences(t *testing.T) {
	r := rand.New(rand.NewSource(1))
	for range 2000 {
		l := random(r)
		if e, _ := Check(l); e != api.OK {
			t.Fatal("the test's path", l)
		}
		once, _ := Reverse(l)
		twice, e := Reverse(once)
		if e != api.OK || !Equal(twice, l) || len(once) != len(l) {
			t.Fatal("reversing twice", l, once, twice)
		}
		if same, e := Transform(l, affine.Identity()); e != api.OK || !Equal(same, l) {
			t.Fatal("Transform by the identity", l)
		}
		var all []api.Segment
		for i := range CountSubpaths(l) {
			part, e := Subpath(l, i)
			if e != api.OK || part[0].Verb != api.MoveTo || CountSubpaths(part) != 1 {
				t.Fatal("Subpath", l, i, part)
			}
			all, _ = Append(all, part)
		}
		if !Equal(all, l) {
			t.Fatal("appending all subpaths", l, all)
		}
		for _, vertical := range []bool{false, true} {
			f, _ := Flip(l, vertical)
			g, e := Flip(f, vertical)
			low, high, ok := Bounds(l)
			low2, high2, ok2 := Bounds(f)
			if e != api.OK || !Equal(g, l) || low != low2 || high != high2 || ok != ok2 {
				t.Fatal("Flip", l, vertical)
			}
		}
	}
}

func TestP13_6AppendSubpathFlip(t *testing.T) {
	a, b := []api.Segment{move(0, 0), line(1, 1)}, []api.Segment{move(5, 5)}
	if l, e := Append(a, b); e != api.OK || !Equal(l, []api.Segment{move(0, 0), line(1, 1), move(5, 5)}) {
		t.Error("Append", l, e)
	}
	bad := []api.Segment{closing}
	full := append([]api.Segment{move(0, 0)}, slices.Repeat([]api.Segment{line(1, 1)}, 255)...)
	if _, e := Append(full[:255], b); e != api.OK {
		t.Error("256 segments", e)
	}
	for _, c := range []struct {
		a, b []api.Segment
		e    api.Errno
	}{{full, b, api.ErrLimit}, {bad, b, api.ErrPath}, {b, bad, api.ErrPath}, {full, bad, api.ErrPath}} {
		if l, e := Append(c.a, c.b); e != c.e || len(l) != 0 {
			t.Error("Append", e, c.e)
		}
	}
	two := []api.Segment{move(0, 0), line(1, 1), closing, move(5, 5), line(6, 6)}
	if l, e := Subpath(two, 1); e != api.OK || !Equal(l, two[3:]) {
		t.Error("Subpath", l, e)
	} else if l[0].A.X = 9; two[3].A.X != 5 {
		t.Error("Subpath shares memory with its argument")
	}
	for _, i := range []int{-1, 2, math.MaxInt} {
		if l, e := Subpath(two, i); e != api.ErrNotFound || len(l) != 0 {
			t.Error("Subpath", i, e)
		}
	}
	if _, e := Subpath(bad, 7); e != api.ErrPath {
		t.Error("Subpath of an invalid path", e)
	}
	l := []api.Segment{move(1, 2), quad(5, 3, 4, 9), closing}
	if m, e := Flip(l, false); e != api.OK || !Equal(m, []api.Segment{move(5, 2), quad(1, 3, 2, 9), closing}) {
		t.Error("Flip", m, e)
	}
	if m, e := Flip(l, true); e != api.OK || !Equal(m, []api.Segment{move(1, 9), quad(5, 8, 4, 2), closing}) {
		t.Error("Flip", m, e)
	}
	if m, e := Flip(bad, true); e != api.ErrPath || len(m) != 0 {
		t.Error("Flip of an invalid path", e)
	}
	if m, e := Flip(nil, true); e != api.OK || len(m) != 0 {
		t.Error("Flip of the empty path", e)
	}
}

func TestP13_7RoundRect(t *testing.T) {
	r := api.Rect{X0: 1, Y0: 2, X1: 3, Y1: 6}
	want := func(radius int) []api.Segment {
		x0, y0, x1, y1 := 256, 512, 768, 1536
		k := int(math.Floor(36195*float64(radius)/65536 + 0.5))
		return []api.Segment{
			move(x0+radius, y0), line(x1-radius, y0), cubic(x1-radius+k, y0, x1, y0+radius-k, x1, y0+radius), line(x1, y1-radius), cubic(x1, y1-radius+k, x1-radius+k, y1, x1-radius, y1),
			line(x0+radius, y1), cubic(x0+radius-k, y1, x0, y1-radius+k, x0, y1-radius), line(x0, y0+radius), cubic(x0, y0+radius-k, x0+radius-k, y0, x0+radius, y0), closing,
		}
	}
	for radius := 1; radius <= 256; radius++ {
		if m := RoundRect(r, radius); !Equal(m, want(radius)) {
			t.Fatal("RoundRect", radius, m)
		}
	}
	for _, radius := range []int{257, math.MaxInt} {
		if m := RoundRect(r, radius); !Equal(m, want(256)) {
			t.Error("a large radius", radius, m)
		}
	}
	for _, radius := range []int{0, -1, math.MinInt} {
		if m := RoundRect(r, radius); !Equal(m, FromRect(r)) {
			t.Error("no radius", radius, m)
		}
	}
	wide, low := RoundRect(api.Rect{X1: 9, Y1: 2}, 1000), RoundRect(api.Rect{X1: 9, Y1: 2}, 256)
	if !Equal(wide, low) || wide[0] != move(256, 0) {
		t.Error("the radius is at most half of the smaller side", wide)
	}
	all := api.Rect{X0: -4096, Y0: -4096, X1: 4096, Y1: 4096}
	for _, radius := range []int{5, 100, math.MaxInt} {
		for _, r := range []api.Rect{r, all} {
			low, high, _ := Bounds(RoundRect(r, radius))
			if low != pt(r.X0*256, r.Y0*256) || high != pt(r.X1*256, r.Y1*256) || !Valid(RoundRect(r, radius)) {
				t.Error("the bounds of a rounded rectangle", r, radius)
			}
		}
	}
}
