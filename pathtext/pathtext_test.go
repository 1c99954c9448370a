package pathtext

import (
	"math/rand"
	"strings"
	"testing"

	"grisaille/api"
	"grisaille/path"
)

func pt(x, y int) api.Point { return api.Point{X: x, Y: y} }

var all = []api.Segment{
	{Verb: api.MoveTo, A: pt(0, -1)}, {Verb: api.LineTo, A: pt(256, 0)}, {Verb: api.QuadTo, A: pt(1, 2), B: pt(3, 4)}, {Verb: api.CubicTo, A: pt(5, 6), B: pt(7, 8), C: pt(-9, 1048576)}, {Verb: api.ClosePath},
}

const allText = "M 0 -1 L 256 0 Q 1 2 3 4 C 5 6 7 8 -9 1048576 Z"

func TestP14_1Format(t *testing.T) {
	if s, e := Format(all); s != allText || e != api.OK {
		t.Error("Format", s, e)
	}
	if s, e := Format(nil); s != "" || e != api.OK {
		t.Error("Format of the empty path", s, e)
	}
	for _, l := range [][]api.Segment{{{Verb: api.LineTo}}, {{Verb: 9}}, {{Verb: 0}}, {{Verb: api.MoveTo, A: pt(1<<21, 0)}}} {
		if s, e := Format(l); s != "" || e != api.ErrPath {
			t.Error("Format", l, s, e)
		}
	}
}

func TestP14_2Parse(t *testing.T) {
	for _, s := range []string{"", allText, "M 0 0", "M 0 0 M 1 1 L 2 2 Z"} {
		l, i, e := Parse(s)
		if i != 0 || e != api.OK {
			t.Error("Parse", s, i, e)
		}
		if again, _ := Format(l); again != s {
			t.Error("Format of Parse", s, again)
		}
	}
	if l, _, _ := Parse(allText); !path.Equal(l, all) {
		t.Error("Parse", l)
	}
	long := "M " + strings.Repeat("1", 1000) + " 0"
	for s, want := range map[string]struct {
		i int
		e api.Errno
	}{
		"M 0": {2, api.ErrSyntax}, "M": {1, api.ErrSyntax}, " ": {0, api.ErrSyntax}, "M 0 0 ": {3, api.ErrSyntax}, " M 0 0": {0, api.ErrSyntax}, "M  0 0": {1, api.ErrSyntax}, "M 0 0 L": {4, api.ErrSyntax},
		"m 0 0": {0, api.ErrSyntax}, "MM 0 0": {0, api.ErrSyntax}, "ML 0 0": {0, api.ErrSyntax}, "0 0": {0, api.ErrSyntax}, "M 0 0 0": {3, api.ErrSyntax}, "M x 0": {1, api.ErrSyntax}, "M 0 -0": {2, api.ErrSyntax}, "M 00 0": {1, api.ErrSyntax},
		"M 0 Z": {2, api.ErrSyntax}, "M 9223372036854775808 0": {1, api.ErrRange}, long: {1, api.ErrRange}, "M 1" + long[2:]: {1, api.ErrSyntax}, "M 0 9223372036854775808 x": {2, api.ErrRange}, "M x 9223372036854775808": {1, api.ErrSyntax},
		"M 0 0 Q 1 2 3": {7, api.ErrSyntax}, "M 0 0 C 1 2 3 4 5 6 7": {10, api.ErrSyntax}, "L 0 0": {0, api.ErrPath}, "M 0 0 Z": {1, api.ErrPath}, "M 0 0 L 1 1 Z L 2 2": {3, api.ErrPath}, "M 0 0 L 1048577 0": {1, api.ErrRange},
		"L 0 0 x": {3, api.ErrSyntax}, "M\t0 0": {0, api.ErrSyntax}, "M 0 0\n": {2, api.ErrSyntax},
		"M 0 0" + strings.Repeat(" L 1 1", 256): {256, api.ErrLimit}, strings.Repeat("M 0 0 ", 11000): {0, api.ErrLimit}, strings.Repeat("x", 65536): {0, api.ErrSyntax}, strings.Repeat("x", 65537): {0, api.ErrLimit},
	} {
		if l, i, e := Parse(s); len(l) != 0 || i != want.i || e != want.e {
			t.Errorf("Parse(%.40q) = %v, %v, %v, want %v", s, l, i, e, want)
		}
	}
	if _, _, e := Parse("M 0 0" + strings.Repeat(" L 1 1", 255)); e != api.OK {
		t.Error("256 segments", e)
	}
}

func TestP14_3RoundTrips(t *testing.T) {
	r := rand.New(rand.NewSource(1))
	for range 20000 {
		var words []string
		for range r.Intn(9) {
			words = append(words, []string{"M", "L", "Q", "C", "Z", "1", "-2", "0", "", "+3"}[r.Intn(10)])
		}
		s := strings.Join(words, " ")
		l, _, e := Parse(s)
		if e != api.OK {
			continue
		}
		if again, e := Format(l); again != s || e != api.OK {
			t.Fatal("Format of Parse", s, again)
		}
	}
	for range 2000 {
		n := func() int { return r.Intn(2*api.MaxCoord) - api.MaxCoord }
		l := []api.Segment{{Verb: api.MoveTo, A: pt(n(), n())}, {Verb: api.CubicTo, A: pt(n(), n()), B: pt(n(), n()), C: pt(n(), n())}, {Verb: api.QuadTo, A: pt(n(), n()), B: pt(n(), n())}}
		s, _ := Format(l)
		if m, _, e := Parse(s); e != api.OK || !path.Equal(l, m) {
			t.Fatal("Parse of Format", l, m, e)
		}
	}
}
