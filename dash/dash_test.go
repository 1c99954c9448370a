package dash

import (
	"math"
	"math/rand"
	"slices"
	"testing"

	"grisaille/api"
	"grisaille/stroke"
	"grisaille/vec"
)

const most = api.MaxCoord

func pt(x, y int) api.Point { return api.Point{X: x, Y: y} }

func line(closed bool, l ...int) api.Polyline {
	p := api.Polyline{Closed: closed}
	for i := 0; i < len(l); i += 2 {
		p.Points = append(p.Points, pt(l[i], l[i+1]))
	}
	return p
}

func style(phase int, dash ...int) api.StrokeStyle {
	return api.StrokeStyle{Width: 256, Join: api.Miter, Cap: api.Butt, MiterLimit: 1024, Dash: dash, DashPhase: phase}
}

func equal(a, b []api.Polyline) bool {
	return slices.EqualFunc(a, b, func(p, q api.Polyline) bool { return p.Closed == q.Closed && slices.Equal(p.Points, q.Points) })
}

func intervals(s api.StrokeStyle, length int) []int {
	var l []int
	for from, to := range OnIntervals(s, length) {
		l = append(l, from, to)
	}
	return l
}

func TestP25_1Length(t *testing.T) {
	for _, c := range []struct {
		p    api.Polyline
		want int
	}{
		{line(false, 0, 0, 3, 4, 3, 4, 3, 0), 256 * 9}, {line(true, 0, 0, 3, 0, 3, 4), 256 * 12}, {line(true, 0, 0, 3, 0, 0, 0), 256 * 6}, {line(false, 5, 5), 0}, {line(true, 5, 5, 5, 5), 0}, {line(false), 0}, {line(false, 0, 0, 1, 1), 362}, {line(false, 0, 0, 9, 9, most+1, 0), 0},
		{line(false, -most, 0, most, 0), 256 * most}, // the difference is clamped when its length is taken
	} {
		if n := Length(c.p); n != c.want {
			t.Error("Length", c, n)
		}
	}
}

// on is the chapter's definition of the pattern.
func on(s api.StrokeStyle, at int) bool {
	sum := 0
	for _, n := range s.Dash {
		sum += 256 * n
	}
	if sum == 0 {
		return true
	}
	p := (at + 256*s.DashPhase) % sum
	for i, n := range s.Dash {
		if p < 256*n {
			return i%2 == 0
		}
		p -= 256 * n
	}
	panic("no element")
}

func someStyle(r *rand.Rand) api.StrokeStyle {
	for {
		s := style(r.Intn(9))
		for range 2 * r.Intn(4) {
			s.Dash = append(s.Dash, r.Intn(4)*r.Intn(2))
		}
		sum := 0
		for _, n := range s.Dash {
			sum += n
		}
		if sum > 0 || len(s.Dash) == 0 {
			return s
		}
	}
}

func TestP25_1P25_4Pattern(t *testing.T) {
	r := rand.New(rand.NewSource(1))
	for range 300 {
		s := someStyle(r)
		length := r.Intn(4000)
		l := intervals(s, length)
		inside := make([]bool, length)
		for i := 0; i < len(l); i += 2 {
			if l[i] >= l[i+1] || i > 0 && l[i-1] >= l[i] {
				t.Fatal("not maximal or not increasing", s, length, l)
			}
			for at := l[i]; at < l[i+1]; at++ {
				inside[at] = true
			}
		}
		for at := range inside {
			if inside[at] != on(s, at) || IsOn(s, at) != on(s, at) {
				t.Fatal("the pattern", s, length, at)
			}
		}
		moved := s
		for _, n := range s.Dash {
			moved.DashPhase += n
		}
		if !slices.Equal(intervals(moved, length), l) {
			t.Fatal("a phase of a period", s)
		}
	}
	bad := style(0, 1, 1)
	bad.Width = 0
	if IsOn(bad, 0) || len(intervals(bad, 99)) != 0 || IsOn(style(0), -1) || IsOn(style(0, 1, 1), math.MinInt) || !IsOn(style(0), 0) {
		t.Error("an invalid style or a negative distance")
	}
	for _, length := range []int{0, -1, math.MinInt} {
		if len(intervals(style(0), length)) != 0 || len(intervals(style(0, 1, 1), length)) != 0 {
			t.Error("a length that is not positive", length)
		}
	}
	for name, c := range map[string]struct {
		s    api.StrokeStyle
		want []int
	}{"no dash": {style(3), []int{0, math.MaxInt}}, "always on": {style(1, 2, 0, 3, 0), []int{0, math.MaxInt}}, "never on": {style(1, 0, 2), nil}} {
		if l := intervals(c.s, math.MaxInt); !slices.Equal(l, c.want) {
			t.Error(name, l)
		}
	}
	long := style(most, most, most, 1, 0)
	if IsOn(long, math.MaxInt) != IsOn(long, math.MaxInt%(256*(2*most+1))) {
		t.Error("the greatest distance")
	}
	seq := OnIntervals(style(0, 1, 1), math.MaxInt)
	for range 2 {
		var first []int
		for from, to := range seq {
			if first = append(first, from, to); len(first) == 6 {
				break
			}
		}
		if !slices.Equal(first, []int{0, 256, 512, 768, 1024, 1280}) {
			t.Error("the first intervals of a long line", first)
		}
	}
}

func TestP25_2Subline(t *testing.T) {
	open, closed := line(false, 0, 0, 0, 0, 10, 0, 10, 10), line(true, 0, 0, 10, 0, 10, 10, 0, 10, 0, 0)
	for _, c := range []struct {
		p        api.Polyline
		from, to int
		want     api.Polyline
	}{
		{open, 0, 2560, line(false, 0, 0, 10, 0)}, {open, 256, 512, line(false, 1, 0, 2, 0)}, {open, 2304, 2816, line(false, 9, 0, 10, 0, 10, 1)}, {open, -5, math.MaxInt, line(false, 0, 0, 10, 0, 10, 10)}, {open, 2560, 5120, line(false, 10, 0, 10, 10)},
		{open, 0, 1, line(false, 0, 0)}, {open, 127, 129, line(false, 0, 0, 1, 0)}, {open, 5, 5, api.Polyline{}}, {open, 9, 5, api.Polyline{}}, {open, 5120, 9999, api.Polyline{}}, {open, -9, 0, api.Polyline{}}, {line(false, 3, 3), 0, 9, api.Polyline{}}, {line(false), 0, 9, api.Polyline{}},
		{closed, 7424, 10240, line(false, 1, 10, 0, 10, 0, 0)}, {closed, 0, 10240, line(false, 0, 0, 10, 0, 10, 10, 0, 10, 0, 0)}, {closed, 10111, 10240, line(false, 0, 1, 0, 0)}, {line(false, 0, 0, most+1, 0), 0, 9, api.Polyline{}},
	} {
		if got := Subline(c.p, c.from, c.to); got.Closed || !slices.Equal(got.Points, c.want.Points) {
			t.Error("Subline", c, got)
		}
	}
	r := rand.New(rand.NewSource(2))
	for range 2000 {
		p := api.Polyline{Closed: r.Intn(2) == 0}
		for range 1 + r.Intn(5) {
			p.Points = append(p.Points, pt(r.Intn(20), r.Intn(20)))
		}
		length := Length(p)
		from, to := r.Intn(length+2)-1, r.Intn(length+2)
		if got := Subline(p, from, to); !slices.Equal(got.Points, slowSubline(p, from, to)) || got.Closed {
			t.Fatal("Subline", p, from, to, got)
		}
	}
}

// slowSubline is the chapter's definition, to the letter.
func slowSubline(p api.Polyline, from, to int) []api.Point {
	length := Length(p)
	from, to = max(0, min(from, length)), max(0, min(to, length))
	if to <= from {
		return nil
	}
	q := stroke.Dedup(p).Points
	if p.Closed && len(q) > 1 {
		q = append(q, q[0])
	}
	var l []api.Point
	at := 0
	for i := 1; i < len(q); i++ {
		n := vec.Length(vec.Sub(q[i], q[i-1]))
		if from >= at && from < at+n {
			l = append(l, vec.Lerp(q[i-1], q[i], from-at, n))
		}
		if from < at && at < to {
			l = append(l, q[i-1])
		}
		if to > at && to <= at+n {
			l = append(l, vec.Lerp(q[i-1], q[i], to-at, n))
		}
		at += n
	}
	return slices.Compact(l)
}

func TestP25_3Apply(t *testing.T) {
	if l, e := Apply(line(false, 0, 0, 4, 0), style(0, 1, 1)); e != api.OK || !equal(l, []api.Polyline{line(false, 0, 0, 1, 0), line(false, 2, 0, 3, 0)}) {
		t.Error("the chapter's example", l, e)
	}
	square := line(true, 0, 0, 0, 0, 10, 0, 10, 10, 0, 10)
	whole := []api.Polyline{line(true, 0, 0, 10, 0, 10, 10, 0, 10)}
	for name, c := range map[string]struct {
		p    api.Polyline
		s    api.StrokeStyle
		want []api.Polyline
	}{
		"no dash": {square, style(5), whole}, "no dash, a point": {line(false, 1, 1, 1, 1), style(0), []api.Polyline{line(false, 1, 1)}}, "no dash, no points": {line(true), style(0), []api.Polyline{line(true)}}, "a point": {line(false, 1, 1, 1, 1), style(0, 1, 1), nil}, "closed, always on": {square, style(0, 3, 0), whole}, "closed, a long dash": {square, style(0, 40, 1), whole},
		"closed, a shorter dash": {square, style(0, 39, 1), []api.Polyline{line(false, 0, 0, 10, 0, 10, 10, 0, 10, 0, 1)}}, "open, always on": {line(false, 0, 0, 10, 0), style(0, 3, 0), []api.Polyline{line(false, 0, 0, 10, 0)}}, "never on": {square, style(0, 0, 3), nil}, "phase": {line(false, 0, 0, 4, 0), style(1, 1, 1), []api.Polyline{line(false, 1, 0, 2, 0), line(false, 3, 0, 4, 0)}},
	} {
		if l, e := Apply(c.p, c.s); e != api.OK || !equal(l, c.want) {
			t.Error(name, l, e)
		}
	}
	bad := style(0, 1, 1)
	bad.Join = 0
	far := line(false, 0, 0, most+1, 0)
	long := api.Polyline{Points: slices.Repeat([]api.Point{pt(1, 1)}, 4097)}
	for name, c := range map[string]struct {
		p api.Polyline
		s api.StrokeStyle
		e api.Errno
	}{
		"style first": {far, bad, api.ErrStroke}, "range": {api.Polyline{Points: append(slices.Clone(long.Points), pt(most+1, 0))}, style(0), api.ErrRange}, "too many points": {long, style(0), api.ErrLimit}, "too many dashes": {line(false, 0, 0, most, 0), style(0, 1, 1), api.ErrLimit}, "4098 points of dashes": {line(false, 0, 0, 4097, 0), style(0, 1, 1), api.ErrLimit},
	} {
		if l, e := Apply(c.p, c.s); e != c.e || len(l) != 0 {
			t.Error(name, e, len(l))
		}
	}
	if l, e := Apply(api.Polyline{Points: long.Points[:4096]}, style(0)); e != api.OK || len(l) != 1 || len(l[0].Points) != 1 {
		t.Error("4096 points", len(l), e)
	}
	if l, e := Apply(line(false, 0, 0, 4096, 0), style(0, 1, 1)); e != api.OK || len(l) != 2048 {
		t.Error("4096 points of dashes", len(l), e)
	}
}
