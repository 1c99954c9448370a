package scene

import (
	"math"
	"math/rand"
	"reflect"
	"slices"
	"testing"

	"grisaille/api"
	"grisaille/node"
)

// at returns a node of the given kind at a depth.
func at(id, kind, depth int) api.Node {
	n := node.Default(id, kind)
	n.Depth = depth
	return n
}

const g, h, p = api.GroupNode, api.ShapeNode, api.ImageNode

func page(nodes ...api.Node) api.Scene {
	return api.Scene{Width: 8, Height: 9, Background: api.Color{R: 1, A: 255}, Nodes: nodes}
}

// sample is a scene with the identifiers 1 to 8: two groups, of which the first one holds another one.
func sample() api.Scene {
	return page(at(1, g, 0), at(2, h, 1), at(3, g, 1), at(4, p, 2), at(5, h, 0), at(6, g, 0), at(7, h, 1), at(8, h, 0))
}

func random(r *rand.Rand) api.Scene {
	s := page()
	ids := r.Perm(20)
	for i := range r.Intn(9) {
		s.Nodes = append(s.Nodes, at(ids[i]+1, 1+r.Intn(3), r.Intn(min(7, deepest(s.Nodes))+1)))
	}
	return s
}

func isZero(s api.Scene) bool { return reflect.DeepEqual(s, api.Scene{}) }

func TestP37_1CheckEqualClone(t *testing.T) {
	full := page()
	for i := range 64 {
		full.Nodes = append(full.Nodes, at(i+1, h, 0))
	}
	deep := page()
	for i := range 8 {
		deep.Nodes = append(deep.Nodes, at(i+1, g, i))
	}
	bad := at(1, h, 0)
	bad.FillRule = 0
	size := func(w, h int, nodes ...api.Node) api.Scene { return api.Scene{Width: w, Height: h, Nodes: nodes} }
	for name, c := range map[string]struct {
		s api.Scene
		e api.Errno
		i int
	}{
		"sample": {sample(), api.OK, 0}, "empty": {page(), api.OK, 0}, "full": {full, api.OK, 0}, "deep": {deep, api.OK, 0}, "largest": {size(256, 256), api.OK, 0}, "smallest": {size(1, 1), api.OK, 0}, "width 0": {size(0, 5, bad), api.ErrRange, 0}, "width 257": {size(257, 5), api.ErrRange, 0}, "height 0": {size(5, 0), api.ErrRange, 0}, "height 257": {size(5, math.MaxInt), api.ErrRange, 0},
		"65 nodes": {page(append(slices.Clone(full.Nodes), bad)...), api.ErrLimit, 64}, "an invalid node": {page(at(9, h, 0), bad, at(9, h, 0)), api.ErrArgument, 1}, "duplicate": {page(at(9, g, 0), at(9, h, 1)), api.ErrDuplicate, 1}, "duplicate before depth": {page(at(9, h, 0), at(9, h, 5)), api.ErrDuplicate, 1}, "node error before duplicate": {page(at(1, h, 0), bad), api.ErrArgument, 1},
		"first depth": {page(at(1, g, 1)), api.ErrNode, 0}, "below a shape": {page(at(1, h, 0), at(2, h, 1)), api.ErrNode, 1}, "below an image": {page(at(1, p, 0), at(2, h, 1)), api.ErrNode, 1}, "too deep": {page(at(1, g, 0), at(2, h, 2)), api.ErrNode, 1}, "depth 8": {page(append(slices.Clone(deep.Nodes), at(9, h, 8))...), api.ErrRange, 8},
	} {
		if e, i := Check(c.s); e != c.e || i != c.i || Valid(c.s) != (c.e == api.OK) {
			t.Error("Check", name, e, i)
		}
	}
	s := sample()
	if !Equal(s, sample()) || !reflect.DeepEqual(Clone(s), s) {
		t.Error("Equal or Clone")
	}
	for i, f := range []func(s *api.Scene){func(s *api.Scene) { s.Width++ }, func(s *api.Scene) { s.Height++ }, func(s *api.Scene) { s.Background.G++ }, func(s *api.Scene) { s.Nodes = s.Nodes[:7] }, func(s *api.Scene) { s.Nodes[3].Image.Pixels[0].A++ }, func(s *api.Scene) { s.Nodes[2].Transform.A.Num.Mag[0]++ }} {
		s := sample()
		c := Clone(s)
		f(&s)
		if Equal(s, sample()) || !reflect.DeepEqual(c, sample()) {
			t.Error("Equal, or Clone shares memory", i)
		}
	}
}

func TestP37_2P37_6Structure(t *testing.T) {
	s := sample()
	ends, parents := []int{4, 2, 4, 4, 5, 7, 7, 8}, []int{-1, 0, 0, 2, -1, -1, 5, -1}
	children := map[int][]int{-1: {0, 4, 5, 7}, 0: {1, 2}, 1: nil, 2: {3}, 4: nil, 5: {6}}
	ancestors := [][]int{{0}, {0, 1}, {0, 2}, {0, 2, 3}, {4}, {5}, {5, 6}, {7}}
	for i := range s.Nodes {
		if IndexOf(s, i+1) != i || SubtreeEnd(s, i) != ends[i] || Parent(s, i) != parents[i] || !slices.Equal(Ancestors(s, i), ancestors[i]) {
			t.Error("the structure at", i)
		}
		sub := Subtree(s, i)
		if len(sub) != ends[i]-i {
			t.Fatal("Subtree", i, len(sub))
		}
		for k, n := range sub {
			want := node.Clone(s.Nodes[i+k])
			want.Depth -= s.Nodes[i].Depth
			if !reflect.DeepEqual(n, want) {
				t.Error("Subtree", i, k)
			}
		}
	}
	for i, want := range children {
		if got := Children(s, i); !slices.Equal(got, want) {
			t.Error("Children", i, got)
		}
	}
	sub := Subtree(s, 2)
	sub[1].Image.Pixels[0].A++
	if !reflect.DeepEqual(s, sample()) {
		t.Error("Subtree shares memory")
	}
	broken := sample()
	broken.Width = 0
	for _, c := range []struct {
		s api.Scene
		i int
	}{{broken, 0}, {s, 8}, {s, -2}, {s, math.MaxInt}, {s, math.MinInt}} {
		if SubtreeEnd(c.s, c.i) != -1 || Parent(c.s, c.i) != -1 || len(Children(c.s, c.i))+len(Ancestors(c.s, c.i))+len(Subtree(c.s, c.i)) != 0 {
			t.Error("no such node", c.i)
		}
	}
	if SubtreeEnd(s, -1) != -1 || Parent(s, -1) != -1 || len(Ancestors(s, -1))+len(Subtree(s, -1)) != 0 || len(Children(broken, -1)) != 0 || IndexOf(broken, 1) != -1 || IndexOf(s, 0) != -1 || IndexOf(s, 9) != -1 {
		t.Error("the index -1, or an invalid scene")
	}
}

func ids(s api.Scene) []int {
	var l []int
	for _, n := range s.Nodes {
		l = append(l, 10*n.ID+n.Depth)
	}
	return l
}

func TestP37_3Apply(t *testing.T) {
	first := at(1, g, 0)
	first.Knockout = true
	replaced := at(3, g, 1)
	replaced.Opacity = 9
	insert := func(i int, n api.Node) api.Edit { return api.Edit{Kind: api.InsertNode, Index: i, Node: n} }
	move := func(id, i, d int) api.Edit { return api.Edit{Kind: api.MoveNode, ID: id, Index: i, Depth: d} }
	remove := func(id int) api.Edit { return api.Edit{Kind: api.RemoveNode, ID: id} }
	replace := func(n api.Node) api.Edit { return api.Edit{Kind: api.ReplaceNode, Node: n} }
	bad := at(9, h, 0)
	bad.FillRule = 0
	for name, c := range map[string]struct {
		e    api.Edit
		want []int // ten times the identifier, plus the depth
		code api.Errno
	}{
		"insert": {insert(3, at(9, h, 2)), []int{10, 21, 31, 92, 42, 50, 60, 71, 80}, api.OK}, "insert at the end": {insert(8, at(9, g, 0)), []int{10, 21, 31, 42, 50, 60, 71, 80, 90}, api.OK}, "insert first": {insert(0, at(9, g, 0)), []int{90, 10, 21, 31, 42, 50, 60, 71, 80}, api.OK},
		"insert beyond": {insert(9, at(9, g, 0)), nil, api.ErrRange}, "insert before": {insert(-1, bad), nil, api.ErrRange}, "insert a duplicate": {insert(0, at(8, h, 0)), nil, api.ErrDuplicate}, "insert too deep": {insert(0, at(9, h, 1)), nil, api.ErrNode}, "insert an invalid node": {insert(0, bad), nil, api.ErrArgument}, "insert makes others invalid": {insert(1, at(9, h, 0)), nil, api.ErrNode},
		"remove": {remove(1), []int{50, 60, 71, 80}, api.OK}, "remove a leaf": {remove(8), []int{10, 21, 31, 42, 50, 60, 71}, api.OK}, "remove nothing": {remove(9), nil, api.ErrNotFound}, "remove 0": {remove(0), nil, api.ErrNotFound},
		"move": {move(3, 3, 1), []int{10, 21, 50, 60, 71, 80}, api.ErrNode}, "move into a group": {move(3, 4, 1), []int{10, 21, 50, 60, 31, 42, 71, 80}, api.OK}, "move to the top": {move(3, 6, 0), []int{10, 21, 50, 60, 71, 80, 30, 42 - 1}, api.OK}, "move beyond": {move(3, 7, 0), nil, api.ErrRange}, "move before": {move(3, -1, 0), nil, api.ErrRange}, "move nothing": {move(9, 99, 0), nil, api.ErrNotFound}, "move too deep": {move(3, 0, 5), nil, api.ErrNode}, "move far down": {move(3, 0, math.MaxInt), nil, api.ErrRange}, "move far up": {move(3, 0, math.MinInt), nil, api.ErrRange},
		"replace": {replace(replaced), ids(sample()), api.OK}, "replace the first node": {replace(first), ids(sample()), api.OK}, "replace nothing": {replace(at(9, h, 0)), nil, api.ErrNotFound}, "replace at another depth": {replace(at(3, g, 0)), nil, api.ErrArgument}, "replace a group by a shape": {replace(at(3, h, 1)), nil, api.ErrNode}, "replace a shape by a group": {replace(at(8, g, 0)), ids(sample()), api.OK},
		"background": {api.Edit{Kind: api.SetBackground, Color: api.Color{B: 3}}, ids(sample()), api.OK}, "kind 0": {api.Edit{}, nil, api.ErrArgument}, "kind 6": {api.Edit{Kind: 6}, nil, api.ErrArgument},
	} {
		s := sample()
		got, code := Apply(s, c.e)
		if code != c.code || code != api.OK && !isZero(got) || code == api.OK && (!slices.Equal(ids(got), c.want) || !Valid(got)) {
			t.Error("Apply", name, ids(got), code)
		}
		if !reflect.DeepEqual(s, sample()) {
			t.Error("Apply modified its argument", name)
		}
		broken := sample()
		broken.Height = 0
		if got, code := Apply(broken, c.e); code != api.ErrScene || !isZero(got) {
			t.Error("an invalid scene", name, code)
		}
	}
	valid := map[int]api.Edit{api.InsertNode: insert(0, at(9, g, 0)), api.RemoveNode: remove(8), api.MoveNode: move(8, 0, 0), api.ReplaceNode: replace(replaced), api.SetBackground: {Kind: api.SetBackground, Color: api.Color{G: 1}}}
	used := map[int]string{api.InsertNode: "node index", api.RemoveNode: "id", api.MoveNode: "id index depth", api.ReplaceNode: "node", api.SetBackground: "color"}
	for kind, e := range valid {
		for field, f := range map[string]func(e *api.Edit){"id": func(e *api.Edit) { e.ID = 1 }, "index": func(e *api.Edit) { e.Index = 1 }, "depth": func(e *api.Edit) { e.Depth = 1 }, "color": func(e *api.Edit) { e.Color.A = 1 }, "node": func(e *api.Edit) { e.Node.Knockout = true }} {
			changed := e
			f(&changed)
			_, code := Apply(sample(), changed)
			if _, unused := usesField(used[kind], field); unused && code != api.ErrArgument {
				t.Error("an unused field that is not zero", kind, field, code)
			}
		}
	}
	loose := remove(8)
	loose.Node.Transform.A.Den = api.Int{Mag: []uint32{5}}
	loose.Node.Path = []api.Segment{}
	if _, code := Apply(sample(), loose); code != api.OK {
		t.Error("an unused node whose coefficients represent 0", code)
	}
	inserted := at(9, p, 0)
	e := insert(0, inserted)
	got, _ := Apply(sample(), e)
	inserted.Image.Pixels[0].A = 7
	if got.Nodes[0].Image.Pixels[0].A != 0 {
		t.Error("Apply shares memory with the edit")
	}
	full := page()
	for i := range 64 {
		full.Nodes = append(full.Nodes, at(i+1, h, 0))
	}
	if _, code := Apply(full, insert(0, at(99, h, 0))); code != api.ErrLimit {
		t.Error("the 65th node", code)
	}
}

func usesField(list, field string) (int, bool) {
	for i := 0; i+len(field) <= len(list); i++ {
		if list[i:i+len(field)] == field && (i == 0 || list[i-1] == ' ') {
			return i, false
		}
	}
	return -1, true
}

func TestP37_4P37_5ApplyAll(t *testing.T) {
	one := api.Edit{Kind: api.RemoveNode, ID: 5}
	two := api.Edit{Kind: api.SetBackground, Color: api.Color{B: 9}}
	s, n, e := ApplyAll(sample(), []api.Edit{one, two})
	if e != api.OK || n != 2 || len(s.Nodes) != 7 || s.Background.B != 9 {
		t.Error("ApplyAll", n, e)
	}
	if s, n, e := ApplyAll(sample(), []api.Edit{one, two, one, two}); e != api.ErrNotFound || n != 2 || !isZero(s) {
		t.Error("ApplyAll with an error", n, e)
	}
	kept := sample()
	if s, n, e := ApplyAll(kept, nil); e != api.OK || n != 0 || !Equal(s, kept) {
		t.Error("ApplyAll of nothing", n, e)
	} else if s.Nodes[0].ID = 99; kept.Nodes[0].ID != 1 {
		t.Error("ApplyAll shares memory")
	}
	if s, n, e := ApplyAll(api.Scene{}, []api.Edit{one}); e != api.ErrScene || n != 0 || !isZero(s) {
		t.Error("an invalid scene", n, e)
	}
	r := rand.New(rand.NewSource(1))
	for range 500 {
		s := random(r)
		i := r.Intn(len(s.Nodes) + 1)
		added := at(99, 1+r.Intn(3), r.Intn(3))
		t1, e := Apply(s, api.Edit{Kind: api.InsertNode, Index: i, Node: added})
		if e != api.OK {
			continue
		}
		if SubtreeEnd(t1, i) != i+1 {
			continue
		}
		if t2, e := Apply(t1, api.Edit{Kind: api.RemoveNode, ID: 99}); e != api.OK || !Equal(t2, s) {
			t.Fatal("inserting and removing", s, i)
		}
		if t3, _ := Apply(s, two); !slices.EqualFunc(t3.Nodes, s.Nodes, node.Equal) {
			t.Fatal("SetBackground changed a node")
		}
	}
}

func TestP37_7P37_8Diff(t *testing.T) {
	a := sample()
	if l, e := Diff(a, sample()); e != api.OK || len(l) != 0 {
		t.Error("equal scenes", l, e)
	}
	b := sample()
	b.Background.B = 7
	b.Nodes[1].FillRule, b.Nodes[6].FillRule = api.EvenOdd, api.EvenOdd
	l, e := Diff(a, b)
	if e != api.OK || len(l) != 3 || l[0].Kind != api.SetBackground || l[0].Color != b.Background || l[1].Kind != api.ReplaceNode || !node.Equal(l[1].Node, b.Nodes[1]) || !node.Equal(l[2].Node, b.Nodes[6]) {
		t.Error("replacements", l, e)
	}
	c := sample()
	c.Nodes = slices.Insert(c.Nodes, 5, at(11, g, 0), at(12, h, 1))
	c.Nodes[4].ID = 13
	l, e = Diff(a, c) // the tree of node 5 gives way to those of 13 and 11
	if e != api.OK || len(l) != 4 || l[0].Kind != api.RemoveNode || l[0].ID != 5 || l[1].Kind != api.InsertNode || l[1].Index != 4 || l[1].Node.ID != 13 || l[2].Index != 5 || l[2].Node.ID != 11 || l[3].Index != 6 || l[3].Node.ID != 12 {
		t.Error("other trees", l, e)
	}
	l[1].Node.Transform.A.Num.Mag[0]++
	if c.Nodes[4].Transform.A.Num.Mag[0] != 1 {
		t.Error("Diff shares memory")
	}
	twin := page(at(1, h, 0), at(1, h, 0))
	wide := sample()
	wide.Width++
	for _, k := range []struct {
		a, b api.Scene
		e    api.Errno
	}{{twin, a, api.ErrScene}, {a, twin, api.ErrScene}, {twin, wide, api.ErrScene}, {a, wide, api.ErrArgument}} {
		if l, e := Diff(k.a, k.b); e != k.e || len(l) != 0 {
			t.Error("Diff", e, k.e)
		}
	}
	r := rand.New(rand.NewSource(2))
	for range 3000 {
		a, b := random(r), random(r)
		if r.Intn(2) == 0 {
			b = Clone(a)
			for range 3 {
				if next, e := Apply(b, api.Edit{Kind: api.MoveNode, ID: 1 + r.Intn(20), Index: r.Intn(8), Depth: r.Intn(3)}); e == api.OK {
					b = next
				}
				if next, e := Apply(b, api.Edit{Kind: api.InsertNode, Index: r.Intn(8), Node: at(21+r.Intn(5), h, r.Intn(2))}); e == api.OK {
					b = next
				}
			}
		}
		l, e := Diff(a, b)
		if e != api.OK {
			t.Fatal(e)
		}
		s, _, e := ApplyAll(a, l)
		if e != api.OK || !Equal(s, b) {
			t.Fatal("applying Diff", ids(a), ids(b), e)
		}
		if want := fewest(a, b); len(l) != want {
			t.Fatal("the number of edits", ids(a), ids(b), len(l), want)
		}
	}
}

// fewest is the number of edits by the chapter's definition, for scenes with the same background.
func fewest(a, b api.Scene) int {
	if slices.EqualFunc(a.Nodes, b.Nodes, func(m, n api.Node) bool { return m.ID == n.ID && m.Depth == n.Depth }) {
		count := 0
		for i := range a.Nodes {
			if !node.Equal(a.Nodes[i], b.Nodes[i]) {
				count++
			}
		}
		return count
	}
	cut := func(s api.Scene) [][]api.Node {
		var l [][]api.Node
		for _, i := range Children(s, -1) {
			l = append(l, s.Nodes[i:SubtreeEnd(s, i)])
		}
		return l
	}
	x, y := cut(a), cut(b)
	same := func(i, j int) bool { return slices.EqualFunc(x[i], y[j], node.Equal) }
	front := 0
	for front < len(x) && front < len(y) && same(front, front) {
		front++
	}
	back := 0
	for back < len(x)-front && back < len(y)-front && same(len(x)-1-back, len(y)-1-back) {
		back++
	}
	count := len(x) - front - back
	for _, tree := range y[front : len(y)-back] {
		count += len(tree)
	}
	return count
}
