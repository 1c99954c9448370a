package gradient

import (
	"math"
	"math/rand"
	"slices"
	"testing"

	"grisaille/api"
)

const end = api.GradientOne

func col(r, g, b, a int) api.Color {
	return api.Color{R: uint8(r), G: uint8(g), B: uint8(b), A: uint8(a)}
}

// stops returns stops whose colors tell their index.
func stops(offsets ...int) []api.ColorStop {
	var l []api.ColorStop
	for i, n := range offsets {
		l = append(l, api.ColorStop{Offset: n, Color: col(i*16, 255-i*16, i, 7*i)})
	}
	return l
}

func random(r *rand.Rand) []api.ColorStop {
	var l []api.ColorStop
	for range 1 + r.Intn(6) {
		l = append(l, api.ColorStop{Offset: r.Intn(9) * end / 8, Color: col(r.Intn(256), r.Intn(256), r.Intn(256), r.Intn(256))})
	}
	return SortStops(l)
}

func TestP31_1ValidAndSpread(t *testing.T) {
	for _, c := range []struct {
		l    []api.ColorStop
		want bool
	}{{nil, false}, {stops(0), true}, {stops(end), true}, {stops(end + 1), false}, {stops(-1), false}, {stops(5, 5, 9), true}, {stops(5, 4), false}, {make([]api.ColorStop, 16), true}, {make([]api.ColorStop, 17), false}, {stops(0, 0, math.MaxInt), false}} {
		if Valid(c.l) != c.want {
			t.Error("Valid", c)
		}
	}
	for _, c := range [][4]int{ // t and its images with Pad, Repeat and Reflect
		{0, 0, 0, 0}, {5, 5, 5, 5}, {end, end, 0, end}, {end + 3, end, 3, end - 3}, {2*end - 1, end, end - 1, 1}, {2 * end, end, 0, 0}, {2*end + 7, end, 7, 7}, {-1, 0, end - 1, 1}, {-end, 0, 0, end}, {-end - 5, 0, end - 5, end - 5}, {math.MaxInt, end, end - 1, 1}, {math.MinInt, 0, 0, 0},
	} {
		for i, spread := range []int{api.Pad, api.Repeat, api.Reflect} {
			if got := SpreadOffset(c[0], spread); got != c[i+1] {
				t.Error("SpreadOffset", c[0], spread, got)
			}
		}
		if SpreadOffset(c[0], 0) != 0 || SpreadOffset(c[0], 4) != 0 || SpreadOffset(c[0], -1) != 0 {
			t.Error("an unknown spread", c[0])
		}
	}
}

// slowColor is the chapter's definition of ColorAt, with exact rounding.
func slowColor(l []api.ColorStop, t int) api.Color {
	if t < l[0].Offset {
		return l[0].Color
	}
	i := len(l) - 1
	for l[i].Offset > t {
		i--
	}
	if i == len(l)-1 {
		return l[i].Color
	}
	a, b, n, d := l[i].Color, l[i+1].Color, t-l[i].Offset, l[i+1].Offset-l[i].Offset
	mix := func(v, w uint8) int {
		m := n * (int(w) - int(v))
		if m < 0 {
			return int(v) - (-2*m+d)/(2*d)
		}
		return int(v) + (2*m+d)/(2*d)
	}
	return col(mix(a.R, b.R), mix(a.G, b.G), mix(a.B, b.B), mix(a.A, b.A))
}

func TestP31_2P31_3Colors(t *testing.T) {
	gray := []api.ColorStop{{Offset: 0, Color: col(0, 0, 0, 255)}, {Offset: end, Color: col(255, 255, 255, 255)}}
	if c := ColorAt(gray, 32768); c != col(128, 128, 128, 255) {
		t.Error("the chapter's example", c)
	}
	if ColorAt(stops(5, 4), 5) != (api.Color{}) || ColorAt(nil, 5) != (api.Color{}) || SpreadColorAt(nil, api.Pad, 5) != (api.Color{}) {
		t.Error("invalid stops")
	}
	for _, spread := range []int{0, 4, -1} {
		if SpreadColorAt(gray, spread, end) != (api.Color{}) {
			t.Error("an invalid spread", spread)
		}
	}
	r := rand.New(rand.NewSource(1))
	for range 5000 {
		l := random(r)
		x := r.Intn(2*end) - end/2
		if ColorAt(l, x) != slowColor(l, x) {
			t.Fatal("ColorAt", l, x)
		}
		for spread := 1; spread <= 3; spread++ {
			got := SpreadColorAt(l, spread, x)
			if got != slowColor(l, SpreadOffset(x, spread)) || spread > 1 && got != SpreadColorAt(l, spread, x+2*end) {
				t.Fatal("SpreadColorAt", l, spread, x)
			}
			if n := SpreadOffset(int(r.Uint64()), spread); n < 0 || n > end {
				t.Fatal("SpreadOffset", n)
			}
		}
		for i, s := range l {
			if (i == len(l)-1 || l[i+1].Offset > s.Offset) && ColorAt(l, s.Offset) != s.Color {
				t.Fatal("at the offset of a stop", l, i)
			}
		}
	}
	mixed := stops(9, 3, 9, 0, math.MinInt, 3)
	sorted := SortStops(mixed)
	want := []api.ColorStop{mixed[4], mixed[3], mixed[1], mixed[5], mixed[0], mixed[2]}
	if !slices.Equal(sorted, want) || mixed[0].Offset != 9 {
		t.Error("SortStops", sorted)
	}
}

func TestP31_4P31_6ReverseAndInsert(t *testing.T) {
	if l := Reverse(stops(1, 5, end)); !slices.Equal(l, []api.ColorStop{{Offset: 0, Color: stops(0, 0, 0)[2].Color}, {Offset: end - 5, Color: stops(0, 0)[1].Color}, {Offset: end - 1, Color: stops(0)[0].Color}}) {
		t.Error("Reverse", l)
	}
	if len(Reverse(stops(5, 4))) != 0 || len(Reverse(nil)) != 0 {
		t.Error("Reverse of invalid stops")
	}
	s := api.ColorStop{Offset: 5, Color: col(1, 2, 3, 4)}
	if l, e := InsertStop(stops(0, 5, 5, 9), s); e != api.OK || len(l) != 5 || l[3] != s || l[4].Offset != 9 {
		t.Error("InsertStop", l, e)
	}
	if l, e := InsertStop(nil, s); e != api.OK || !slices.Equal(l, []api.ColorStop{s}) {
		t.Error("InsertStop into nothing", l, e)
	}
	if l, e := InsertStop(stops(6), s); e != api.OK || l[0] != s {
		t.Error("InsertStop at the front", l, e)
	}
	full := make([]api.ColorStop, 16)
	if l, e := InsertStop(full[:15:16], s); e != api.OK || len(l) != 16 || full[15] != (api.ColorStop{}) {
		t.Error("InsertStop as the 16th", l, e)
	}
	for name, c := range map[string]struct {
		l []api.ColorStop
		s api.ColorStop
		e api.Errno
	}{"full": {full, s, api.ErrLimit}, "too long": {make([]api.ColorStop, 17), s, api.ErrArgument}, "offset -1": {full, api.ColorStop{Offset: -1}, api.ErrArgument}, "offset beyond": {nil, api.ColorStop{Offset: end + 1}, api.ErrArgument}, "unsorted": {stops(5, 4), s, api.ErrArgument}, "one invalid stop": {stops(-1), s, api.ErrArgument}} {
		if l, e := InsertStop(c.l, c.s); e != c.e || len(l) != 0 {
			t.Error(name, l, e)
		}
	}
	r := rand.New(rand.NewSource(2))
	near := func(v, w uint8) bool { return int(v)-int(w) <= 1 && int(w)-int(v) <= 1 }
	for range 2000 {
		l := random(r)
		if !slices.Equal(Reverse(Reverse(l)), l) {
			t.Fatal("Reverse twice", l)
		}
		at := r.Intn(end + 1)
		m, _ := InsertStop(l, api.ColorStop{Offset: at, Color: ColorAt(l, at)})
		x := r.Intn(end + 1)
		if c, d := ColorAt(l, x), ColorAt(m, x); !near(c.R, d.R) || !near(c.G, d.G) || !near(c.B, d.B) || !near(c.A, d.A) {
			t.Fatal("an inserted stop", l, at, x)
		}
	}
}

func TestP31_5Table(t *testing.T) {
	for _, c := range []struct {
		l []api.ColorStop
		n int
		e api.Errno
	}{{nil, 5, api.ErrArgument}, {stops(5, 4), 9999, api.ErrArgument}, {stops(5), 0, api.ErrArgument}, {stops(5), math.MinInt, api.ErrArgument}, {stops(5), 4097, api.ErrLimit}, {stops(5), math.MaxInt, api.ErrLimit}} {
		if l, e := Table(c.l, c.n); e != c.e || len(l) != 0 {
			t.Error("Table", c, len(l), e)
		}
	}
	r := rand.New(rand.NewSource(3))
	for _, n := range []int{1, 2, 3, 7, 256, 4096} {
		l := random(r)
		table, e := Table(l, n)
		if e != api.OK || len(table) != n {
			t.Fatal("Table", n, e)
		}
		for i, c := range table {
			at := 0
			if n > 1 {
				at = (2*i*end + n - 1) / (2 * (n - 1))
			}
			if c != slowColor(l, at) {
				t.Fatal("Table", l, n, i)
			}
		}
	}
}
