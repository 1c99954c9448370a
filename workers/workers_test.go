package workers

import (
	"math"
	"math/rand"
	"slices"
	"testing"

	"grisaille/api"
	"grisaille/bitmap"
	"grisaille/render"
	"grisaille/samples"
	"grisaille/scene"
)

func plain() api.Scene {
	return api.Scene{Width: 5, Height: 4, Background: api.Color{R: 9, A: 255}}
}

func act(kind, worker, tile, rows int) api.Action {
	return api.Action{Kind: kind, Worker: worker, Tile: tile, Rows: rows}
}

func isZero(b api.Bitmap) bool { return b.Bounds == api.Rect{} && len(b.Pixels) == 0 }

func TestP48_1New(t *testing.T) {
	large := api.Scene{Width: 17, Height: 16}
	for name, c := range map[string]struct {
		s          api.Scene
		w, h, many int
		e          api.Errno
	}{
		"scene": {api.Scene{}, 0, 0, 0, api.ErrScene}, "width": {plain(), 0, 1, 1, api.ErrArgument}, "height": {plain(), 1, -1, 1, api.ErrArgument}, "tiles": {large, 1, 1, 1, api.ErrArgument}, "no workers": {plain(), 2, 2, 0, api.ErrArgument}, "9 workers": {plain(), 2, 2, 9, api.ErrArgument}, "8 workers": {plain(), 2, 2, 8, api.OK}, "1 worker": {plain(), 99, 99, 1, api.OK},
	} {
		if p, e := New(c.s, c.w, c.h, c.many); e != c.e || (p == nil) != (e != api.OK) {
			t.Error("New:", name, e)
		}
	}
	s := samples.Scene(rand.New(rand.NewSource(3)).Intn)
	p, _ := New(s, 99, 99, 1)
	want, _ := render.Page(s)
	s.Nodes[0] = api.Node{}
	p.Run([]api.Action{act(1, 0, 0, 0), act(2, 0, 0, 256), act(3, 0, 0, 0)})
	if b, e := p.Bitmap(); e != api.OK || !bitmap.Equal(b, want) {
		t.Error("later changes of the scene affect the pool", e)
	} else if b.Pixels[0].A++; true {
		if again, _ := p.Bitmap(); !bitmap.Equal(again, want) {
			t.Error("the bitmap shares memory with the pool")
		}
	}
}

func TestP48_2Actions(t *testing.T) {
	p, _ := New(plain(), 3, 2, 2) // tiles of 3 by 2, 2 by 2, 3 by 2 and 2 by 2
	for i, c := range []struct {
		a api.Action
		e api.Errno
	}{
		{act(0, 0, 0, 1), api.ErrArgument}, {act(5, 0, 0, 1), api.ErrArgument}, {act(1, 2, 0, 1), api.ErrArgument}, {act(1, -1, 0, 1), api.ErrArgument}, {act(math.MinInt, 0, 0, 1), api.ErrArgument},
		{act(2, 0, 0, 0), api.ErrState}, {act(3, 0, 0, 0), api.ErrState}, {act(4, 0, 0, 0), api.ErrState}, {act(1, 0, 4, 0), api.ErrNotFound}, {act(1, 0, -1, 0), api.ErrNotFound},
		{act(1, 0, 1, -9), api.OK}, {act(1, 0, 9, 0), api.ErrState}, {act(1, 1, 1, 0), api.ErrDuplicate}, {act(2, 0, 99, 0), api.ErrArgument}, {act(2, 0, 99, -1), api.ErrArgument}, {act(3, 0, 1, 0), api.ErrState},
		{act(2, 0, 0, 1), api.OK}, {act(3, 0, 1, 0), api.ErrState}, {act(2, 0, 0, math.MaxInt), api.OK}, {act(2, 0, 0, 1), api.OK}, {act(3, 0, 0, 0), api.OK}, {act(3, 0, 0, 0), api.ErrState}, {act(1, 1, 1, 0), api.ErrDuplicate}, {act(1, 0, 1, 0), api.ErrDuplicate},
		{act(1, 1, 0, 0), api.OK}, {act(2, 1, 0, 1), api.OK}, {act(4, 1, 0, 0), api.OK}, {act(1, 0, 0, 0), api.OK}, {act(3, 0, 0, 0), api.ErrState}, {act(2, 0, 0, 2), api.OK}, {act(3, 0, 0, 0), api.OK},
	} {
		if e := p.Do(c.a); e != c.e {
			t.Error("Do", i, c.a, e)
		}
	}
	if !slices.Equal(p.Pending(), []int{2, 3}) {
		t.Error("Pending", p.Pending())
	}
	if b, e := p.Bitmap(); e != api.ErrState || !isZero(b) {
		t.Error("Bitmap with pending tiles", e)
	}
}

func TestP48_3Queries(t *testing.T) {
	p, _ := New(plain(), 3, 2, 3)
	if l := p.Run([]api.Action{act(1, 2, 3, 0), act(2, 2, 0, 1), act(1, 0, 3, 0), act(1, 0, 0, 0), act(2, 0, 0, 9), act(3, 0, 0, 0)}); !slices.Equal(l, []api.Errno{0, 0, api.ErrDuplicate, 0, 0, 0}) {
		t.Error("Run", l)
	}
	for who, want := range map[int][2]int{0: {-1, 0}, 1: {-1, 0}, 2: {3, 1}, 3: {-1, 0}, -1: {-1, 0}, math.MaxInt: {-1, 0}} {
		if i, rows := p.Assignment(who); i != want[0] || rows != want[1] {
			t.Error("Assignment", who, i, rows)
		}
	}
	for i, want := range map[int]int{0: 2, 1: 0, 2: 0, 3: 1, 4: -1, -1: -1, math.MinInt: -1} {
		if p.TileState(i) != want {
			t.Error("TileState", i, p.TileState(i))
		}
	}
	if !slices.Equal(p.Pending(), []int{1, 2, 3}) || len(p.Run(nil)) != 0 {
		t.Error("Pending or Run")
	}
	p.Do(act(2, 2, 0, 1))
	if i, rows := p.Assignment(2); i != 3 || rows != 2 {
		t.Error("the number of drawn rows", i, rows)
	}
	p.Do(act(4, 2, 0, 0))
	if i, rows := p.Assignment(2); i != -1 || rows != 0 || p.TileState(3) != 0 {
		t.Error("after a crash", i, rows)
	}
	for _, p := range []*Pool{nil, {}} {
		b, e := p.Bitmap()
		i, rows := p.Assignment(0)
		if p.Do(act(9, 0, 0, 0)) != api.ErrNil || !slices.Equal(p.Run(make([]api.Action, 2)), []api.Errno{api.ErrNil, api.ErrNil}) || i != -1 || rows != 0 || p.TileState(0) != -1 || len(p.Pending()) != 0 || e != api.ErrNil || !isZero(b) {
			t.Error("a pool that New did not create")
		}
	}
}

func TestP48_4AnyOrder(t *testing.T) {
	r := rand.New(rand.NewSource(1))
	for range 25 {
		s := samples.Scene(r.Intn)
		many := 1 + r.Intn(4)
		p, e := New(s, 1+r.Intn(4), 1+r.Intn(4), many)
		if e != api.OK {
			t.Fatal(e)
		}
		done := map[int]bool{}
		for step := 0; len(p.Pending()) > 0; step++ {
			kind := []int{1, 2, 2, 3, 3}[r.Intn(5)]
			if r.Intn(25) == 0 {
				kind = 4
			}
			p.Do(act(kind, r.Intn(many), r.Intn(len(p.tiles)), 1+r.Intn(2)))
			for i := range p.tiles {
				if done[i] && p.TileState(i) != 2 {
					t.Fatal("a published tile does not stay published", i)
				}
				done[i] = p.TileState(i) == 2
			}
			if step > 100000 {
				t.Fatal("the pool does not finish")
			}
		}
		want, _ := render.Page(s)
		if b, e := p.Bitmap(); e != api.OK || !bitmap.Equal(b, want) {
			t.Fatal("Bitmap", e)
		}
	}
}

func TestP48_5P48_6Schedules(t *testing.T) {
	costs := []int{3, 5, 4}
	l, e := Assign(costs, 2)
	m, f := Makespan(costs, l, 2)
	if e != api.OK || f != api.OK || !slices.Equal(l, []int{1, 0, 1}) || m != 7 {
		t.Error("the chapter's example", l, m, e, f)
	}
	if l, _ := Assign([]int{2, 2, 2, 0, 0}, 3); !slices.Equal(l, []int{0, 1, 2, 0, 0}) {
		t.Error("equal costs", l)
	}
	many := make([]int, 257)
	for name, c := range map[string]struct {
		costs    []int
		assigned []int
		workers  int
		e        api.Errno
	}{
		"no workers": {many, nil, 0, api.ErrArgument}, "9 workers": {[]int{-1}, nil, 9, api.ErrArgument}, "many": {append([]int{-1}, many...), nil, 1, api.ErrLimit}, "negative": {[]int{1, -1}, nil, 1, api.ErrRange}, "high": {[]int{1<<30 + 1}, nil, 1, api.ErrRange}, "far": {[]int{math.MaxInt}, nil, 1, api.ErrRange},
	} {
		if l, e := Assign(c.costs, c.workers); e != c.e || len(l) != 0 {
			t.Error("Assign:", name, e)
		}
		if m, e := Makespan(c.costs, c.assigned, c.workers); e != c.e || m != 0 {
			t.Error("Makespan:", name, e)
		}
	}
	for name, assigned := range map[string][]int{"short": {0}, "long": {0, 0, 0}, "a worker too much": {0, 2}, "a negative worker": {-1, 0}} {
		if m, e := Makespan([]int{1, 2}, assigned, 2); e != api.ErrRange || m != 0 {
			t.Error("Makespan:", name, e)
		}
	}
	if l, e := Script([]int{1, 0}, 2); e != api.OK || !slices.Equal(l, []api.Action{act(1, 1, 0, 0), act(2, 1, 0, 256), act(3, 1, 0, 0), act(1, 0, 1, 0), act(2, 0, 0, 256), act(3, 0, 0, 0)}) {
		t.Error("Script", l, e)
	}
	for name, c := range map[string]struct {
		assigned []int
		workers  int
		e        api.Errno
	}{"no workers": {many, 0, api.ErrArgument}, "9 workers": {nil, 9, api.ErrArgument}, "many": {append([]int{9}, many...), 1, api.ErrLimit}, "a worker too much": {[]int{0, 1}, 1, api.ErrRange}, "a negative worker": {[]int{-1}, 1, api.ErrRange}} {
		if l, e := Script(c.assigned, c.workers); e != c.e || len(l) != 0 {
			t.Error("Script:", name, e)
		}
	}
	if l, e := Assign([]int{0, 1 << 30}, 1); e != api.OK || !slices.Equal(l, []int{0, 0}) {
		t.Error("the greatest cost", l, e)
	}
	if l, e := Assign(many[:256], 3); e != api.OK || len(l) != 256 {
		t.Error("Assign of 256 tiles", e)
	} else if _, e := Makespan(many[:256], l, 3); e != api.OK {
		t.Error("Makespan of 256 tiles", e)
	}
	if l, e := Script(many[:256], 1); e != api.OK || len(l) != 768 {
		t.Error("Script of 256 tiles", e)
	}
	r := rand.New(rand.NewSource(2))
	for range 500 {
		workers := 1 + r.Intn(8)
		costs := make([]int, r.Intn(12))
		sum, most := 0, 0
		for i := range costs {
			costs[i] = r.Intn(5) * r.Intn(1<<28)
			sum, most = sum+costs[i], max(most, costs[i])
		}
		l, e := Assign(costs, workers)
		if e != api.OK || !slices.Equal(l, slowAssign(costs, workers)) {
			t.Fatal("Assign", costs, workers, l)
		}
		m, e := Makespan(costs, l, workers)
		if e != api.OK || m < most || m*workers < sum || m*workers > sum+(workers-1)*most {
			t.Fatal("Makespan", costs, workers, m)
		}
	}
	s := plain()
	p, _ := New(s, 2, 3, 3)
	script, _ := Script([]int{2, 0, 1, 1, 0, 2}, 3)
	for _, e := range p.Run(script) {
		if e != api.OK {
			t.Error("running a script", e)
		}
	}
	want, _ := render.Page(s)
	if b, e := p.Bitmap(); e != api.OK || !bitmap.Equal(b, want) || !scene.Valid(s) {
		t.Error("a script publishes all tiles", e)
	}
}

// slowAssign is the chapter's rule, to the letter.
func slowAssign(costs []int, workers int) []int {
	assigned := slices.Repeat([]int{-1}, len(costs))
	loads := make([]int, workers)
	for range costs {
		next := -1
		for i := range costs {
			if assigned[i] < 0 && (next < 0 || costs[i] > costs[next]) {
				next = i
			}
		}
		who := 0
		for k := range loads {
			if loads[k] < loads[who] {
				who = k
			}
		}
		assigned[next] = who
		loads[who] += costs[next]
	}
	return assigned
}
