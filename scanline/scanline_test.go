package scanline

import (
	"math/rand"
	"reflect"
	"slices"
	"testing"

	"grisaille/api"
	"grisaille/polygon"
	"grisaille/rational"
)

func pt(x, y int) api.Point { return api.Point{X: x, Y: y} }

func rat(n, d int) api.Rat {
	f, _ := rational.FromInts(n, d)
	return f
}

func ring(l ...int) []api.Point {
	var r []api.Point
	for i := 0; i < len(l); i += 2 {
		r = append(r, pt(l[i], l[i+1]))
	}
	return r
}

// spans returns spans between halves of the given numbers.
func spans(l ...int) []api.Span {
	var s []api.Span
	for i := 0; i < len(l); i += 2 {
		s = append(s, api.Span{From: rat(l[i], 2), To: rat(l[i+1], 2)})
	}
	return s
}

func equal(a, b []api.Span) bool {
	return len(a) == len(b) && (len(a) == 0 || reflect.DeepEqual(a, b))
}

var square = ring(0, 0, 4, 0, 4, 4, 0, 4)

func random(r *rand.Rand) [][]api.Point {
	var l [][]api.Point
	for range 1 + r.Intn(3) {
		var ring []api.Point
		for range 3 + r.Intn(4) {
			ring = append(ring, pt(r.Intn(9)-4, r.Intn(9)-4))
		}
		l = append(l, ring)
	}
	return l
}

func TestP18_1Crossings(t *testing.T) {
	at, directions := Crossings([][]api.Point{square, ring(0, 4, 4, 4, 4, 0, 0, 0)}, rat(1, 2))
	if !reflect.DeepEqual(at, []api.Rat{rat(0, 1), rat(0, 1), rat(4, 1), rat(4, 1)}) || !slices.Equal(directions, []int{1, -1, 1, -1}) {
		t.Error("equal X: direction 1 comes first", at, directions)
	}
	at, directions = Crossings([][]api.Point{ring(5, 0, 0, 9, -7, 3)}, rat(3, 1))
	if !reflect.DeepEqual(at, []api.Rat{rat(10, 3)}) || !slices.Equal(directions, []int{1}) {
		t.Error("a height with a vertex: edges that end there do not cross", at, directions)
	}
	for _, y := range []api.Rat{rat(0, 1), rat(4, 1), rat(5, 1), rat(-1, 3)} {
		if at, directions := Crossings([][]api.Point{square}, y); len(at)+len(directions) != 0 {
			t.Error("no crossing", y, at)
		}
	}
	if at, directions := Crossings([][]api.Point{square, ring(1<<21, 0)}, rat(1, 1)); len(at)+len(directions) != 0 {
		t.Error("polygons that are not valid", at)
	}
	r := rand.New(rand.NewSource(1))
	for range 2000 {
		l := random(r)
		y := rat(r.Intn(17)-8, 1+r.Intn(3))
		at, directions := Crossings(l, y)
		count := 0
		for _, ring := range l {
			for i, a := range ring {
				b := ring[(i+1)%len(ring)]
				if rational.Cmp(rat(min(a.Y, b.Y), 1), y) < 0 && rational.Cmp(rat(max(a.Y, b.Y), 1), y) > 0 {
					count++
				}
			}
		}
		if len(at) != count || len(directions) != count {
			t.Fatal("the number of crossings", l, y)
		}
		for i := 1; i < len(at); i++ {
			if c := rational.Cmp(at[i-1], at[i]); c > 0 || c == 0 && directions[i-1] < directions[i] {
				t.Fatal("the order of the crossings", l, y)
			}
		}
	}
}

func TestP18_2Spans(t *testing.T) {
	if s := Spans([][]api.Point{square}, api.NonZero, rat(1, 1)); !equal(s, spans(0, 8)) {
		t.Error("the chapter's example", s)
	}
	two := [][]api.Point{square, ring(2, 0, 6, 0, 6, 4, 2, 4)}
	if s := Spans(two, api.NonZero, rat(1, 1)); !equal(s, spans(0, 12)) {
		t.Error("NonZero", s)
	}
	if s := Spans(two, api.EvenOdd, rat(1, 1)); !equal(s, spans(0, 4, 8, 12)) {
		t.Error("EvenOdd", s)
	}
	for _, rule := range []int{0, 3, -1} {
		if s := Spans(two, rule, rat(1, 1)); len(s) != 0 {
			t.Error("an unknown rule", s)
		}
	}
	if s := Spans([][]api.Point{ring(0, 0, 8, 0, 8, 4, 4, 2, 0, 4)}, api.NonZero, rat(2, 1)); !equal(s, spans(0, 16)) {
		t.Error("a height with a vertex", s)
	}
	r := rand.New(rand.NewSource(2))
	for range 1000 {
		l := random(r)
		y := r.Intn(9) - 4 // moved up by a half, such that no vertex is there
		half := rat(2*y+1, 2)
		for _, rule := range []int{api.NonZero, api.EvenOdd} {
			s := Spans(l, rule, half)
			for x := -10; x < 10; x++ {
				// The same polygons at twice the size have an integer point in the middle.
				var large [][]api.Point
				onEdge := false
				for _, ring := range l {
					var m []api.Point
					for _, p := range ring {
						m = append(m, pt(p.X*2, p.Y*2))
					}
					large = append(large, m)
				}
				at, _ := Crossings(large, rat(2*y+1, 1))
				for _, c := range at {
					onEdge = onEdge || rational.Cmp(c, rat(x, 1)) == 0
				}
				if !onEdge && Contains(s, rat(x, 2)) != polygon.Contains(large, rule, pt(x, 2*y+1)) {
					t.Fatal("Spans", l, rule, half, x)
				}
			}
		}
	}
}

func TestP18_3P18_4MergeLengthContains(t *testing.T) {
	loose := api.Span{From: rational.Neg(rat(2, 1)), To: rat(2, 1)}
	loose.To.Num.Mag, loose.To.Den.Mag = []uint32{6, 0}, []uint32{4}
	for _, c := range []struct{ in, want []api.Span }{
		{spans(4, 6, 0, 2), spans(0, 2, 4, 6)}, {spans(0, 2, 2, 4), spans(0, 4)}, {spans(0, 9, 1, 2, 3, 4), spans(0, 9)}, {spans(3, 3, 5, 1), nil}, {nil, nil}, {spans(0, 4, 2, 6, 9, 9), spans(0, 6)}, {[]api.Span{loose}, spans(-4, 3)},
	} {
		before := reflect.ValueOf(c.in).Len()
		got := Merge(c.in...)
		if !equal(got, c.want) || !equal(Merge(got...), got) || before != len(c.in) {
			t.Error("Merge", c, got)
		}
	}
	l := spans(0, 2, 4, 8, 1, 2)
	for _, c := range [][3]int{{0, 8, 6}, {1, 5, 2}, {2, 4, 0}, {5, 1, 0}, {3, 3, 0}, {-9, 99, 6}, {1, 2, 1}} {
		if n := Length(l, rat(c[0], 2), rat(c[1], 2)); !reflect.DeepEqual(n, rat(c[2], 2)) {
			t.Error("Length", c, n)
		}
	}
	if n := Length(nil, rat(0, 1), rat(1, 1)); !reflect.DeepEqual(n, rat(0, 1)) {
		t.Error("Length of nothing", n)
	}
	for x, want := range map[int]bool{0: false, 1: true, 2: false, 3: false, 5: true, 8: false, -1: false} {
		if Contains(l, rat(x, 2)) != want {
			t.Error("Contains", x)
		}
	}
	if !Contains(spans(0, 2, 2, 4), rat(1, 1)) {
		t.Error("touching spans have no gap")
	}
	s := []api.Span{{From: rat(0, 1), To: rat(5, 1)}}
	if m := Merge(s...); true {
		if m[0].To.Num.Mag[0] = 77; s[0].To.Num.Mag[0] != 5 {
			t.Error("Merge shares memory with its argument")
		}
	}
	r := rand.New(rand.NewSource(3))
	for range 500 {
		l := someSpans(r)
		a, b, c := rat(r.Intn(8), 2), rat(8+r.Intn(8), 2), rat(16+r.Intn(8), 2)
		if !reflect.DeepEqual(Length(l, a, c), rational.Add(Length(l, a, b), Length(l, b, c))) {
			t.Fatal("Length is not additive", l)
		}
	}
}

func someSpans(r *rand.Rand) []api.Span {
	var l []int
	for range 2 * r.Intn(5) {
		l = append(l, r.Intn(24))
	}
	return spans(l...)
}

func TestP18_5P18_7Operations(t *testing.T) {
	if s := Subtract(spans(0, 8), spans(2, 4)); !equal(s, spans(0, 2, 4, 8)) {
		t.Error("the chapter's example", s)
	}
	r := rand.New(rand.NewSource(4))
	for range 3000 {
		a, b := someSpans(r), someSpans(r)
		or, and, not := Union(a, b), Intersect(a, b), Subtract(a, b)
		for _, s := range [][]api.Span{or, and, not} {
			for i := range s {
				if isEmpty(s[i]) || !rational.IsNormalized(s[i].From) || !rational.IsNormalized(s[i].To) || i > 0 && rational.Cmp(s[i-1].To, s[i].From) > 0 {
					t.Fatal("empty, not normalized or not in order", a, b, s)
				}
			}
		}
		for i := -1; i < 26; i++ { // quarters between the halves at which spans end
			x := rat(2*i+1, 4)
			inA, inB := Contains(a, x), Contains(b, x)
			if Contains(or, x) != (inA || inB) || Contains(and, x) != (inA && inB) || Contains(not, x) != (inA && !inB) {
				t.Fatal("Union, Intersect or Subtract", a, b, x)
			}
		}
		if !equal(Merge(or...), or) || !equal(Merge(and...), and) || !equal(Merge(not...), not) {
			t.Fatal("not as few as possible", a, b, or, and, not)
		}
		from, to := rat(r.Intn(24), 2), rat(r.Intn(24), 2)
		length := func(l []api.Span) api.Rat { return Length(l, from, to) }
		if rational.Cmp(rational.Add(length(or), length(and)), rational.Add(length(a), length(b))) != 0 || rational.Cmp(rational.Add(length(not), length(and)), length(a)) != 0 {
			t.Fatal("the lengths", a, b)
		}
	}
}

func TestP18_6P18_7Levels(t *testing.T) {
	l := [][]api.Point{square, ring(2, 0, 6, 0, 6, 4, 2, 4), ring(6, 4, 8, 4, 8, 0, 6, 0), ring(8, 4, 9, 4, 9, 0, 8, 0), ring(20, 0, 21, 0, 21, 4, 20, 4), ring(20, 4, 21, 4, 21, 0, 20, 0)}
	s, n := Levels(l, rat(1, 1))
	if !equal(s, spans(0, 4, 4, 8, 8, 12, 12, 18)) || !slices.Equal(n, []int{1, 2, 1, -1}) {
		t.Error("Levels", s, n)
	}
	if s, n := Levels([][]api.Point{square, ring(1<<21, 0)}, rat(1, 1)); len(s)+len(n) != 0 {
		t.Error("polygons that are not valid", s)
	}
	r := rand.New(rand.NewSource(5))
	for range 1000 {
		l := random(r)
		y := rat(2*r.Intn(9)-9, 2)
		s, n := Levels(l, y)
		for i := range s {
			if n[i] == 0 || isEmpty(s[i]) || i > 0 && (rational.Cmp(s[i-1].To, s[i].From) > 0 || rational.Cmp(s[i-1].To, s[i].From) == 0 && n[i-1] == n[i]) {
				t.Fatal("Levels", l, y, s, n)
			}
		}
		for _, rule := range []int{api.NonZero, api.EvenOdd} {
			var inside []api.Span
			for i := range s {
				if polygon.Fills(n[i], rule) {
					inside = append(inside, s[i])
				}
			}
			if !equal(Merge(inside...), Spans(l, rule, y)) {
				t.Fatal("Levels and Spans", l, y)
			}
		}
		var large [][]api.Point // at twice the size the height is an integer
		for _, ring := range l {
			var m []api.Point
			for _, p := range ring {
				m = append(m, pt(p.X*2, p.Y*2))
			}
			large = append(large, m)
		}
		height := 2*r.Intn(9) - 9
		s, n = Levels(large, rat(height, 1))
		at, _ := Crossings(large, rat(height, 1))
		for x := -10; x < 10; x++ {
			if slices.ContainsFunc(at, func(c api.Rat) bool { return rational.Cmp(c, rat(x, 1)) == 0 }) {
				continue
			}
			want := 0
			for i := range s {
				if Contains(s[i:i+1], rat(x, 1)) {
					want = n[i]
				}
			}
			if polygon.WindingNumber(large, pt(x, height)) != want {
				t.Fatal("Levels and WindingNumber", large, height, x)
			}
		}
	}
}
