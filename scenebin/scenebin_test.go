package scenebin

import (
	"bytes"
	"encoding/binary"
	"hash/crc32"
	"math"
	"math/rand"
	"reflect"
	"slices"
	"testing"

	"grisaille/api"
	"grisaille/binenc"
	"grisaille/node"
	"grisaille/path"
	"grisaille/render"
	"grisaille/samples"
	"grisaille/scene"
)

// A writer is the oracle of the format.
type writer struct {
	b      []byte
	packed bool
}

func (w *writer) n(l ...int) {
	for _, n := range l {
		w.b = binary.AppendVarint(w.b, int64(n))
	}
}
func (w *writer) u(n int)       { w.b = binary.AppendUvarint(w.b, uint64(n)) }
func (w *writer) raw(b ...byte) { w.b = append(w.b, b...) }
func (w *writer) p(p api.Point) { w.n(p.X, p.Y) }
func (w *writer) c(c api.Color) { w.raw(c.R, c.G, c.B, c.A) }
func (w *writer) flag(b bool)   { w.raw(map[bool]byte{true: 1}[b]) }
func (w *writer) t(t api.Affine) {
	for _, f := range []api.Rat{t.A, t.B, t.C, t.D, t.E, t.F} {
		w.raw(binenc.PutRational(f)...)
	}
}
func (w *writer) path(l []api.Segment) {
	w.u(len(l))
	for _, s := range l {
		w.n(s.Verb, s.A.X, s.A.Y, s.B.X, s.B.Y, s.C.X, s.C.Y)
	}
}

func runs(l []api.Pixel) []byte {
	var w writer
	for i := 0; i < len(l); {
		j := i
		for j < len(l) && l[j] == l[i] {
			j++
		}
		w.u(j - i)
		w.c(api.Color(l[i]))
		i = j
	}
	return w.b
}

func (w *writer) image(m api.Image) {
	w.n(m.Width, m.Height)
	if w.packed {
		packed := runs(m.Pixels)
		w.u(len(packed))
		w.raw(packed...)
		return
	}
	for _, p := range m.Pixels {
		w.c(api.Color(p))
	}
}
func (w *writer) paints(l []api.Paint) {
	w.u(len(l))
	for _, p := range l {
		w.n(p.Kind)
		w.c(p.Color)
		w.p(p.P0)
		w.p(p.P1)
		w.n(p.Radius)
		w.u(len(p.Stops))
		for _, s := range p.Stops {
			w.n(s.Offset)
			w.c(s.Color)
		}
		w.n(p.Spread)
		w.image(p.Image)
		w.n(p.Sampling)
		w.t(p.Transform)
	}
}
func (w *writer) node(n api.Node) {
	w.n(n.ID, n.Kind, n.Depth)
	w.t(n.Transform)
	w.path(n.Clip)
	w.n(n.ClipRule)
	switch n.Kind {
	case api.GroupNode:
		w.raw(n.Opacity)
		w.n(n.Blend)
		w.flag(n.Isolated)
		w.flag(n.Knockout)
	case api.ShapeNode:
		w.path(n.Path)
		w.n(n.FillRule)
		w.paints(n.Fill)
		w.paints(n.Stroke)
		if len(n.Stroke) > 0 {
			w.n(n.Style.Width, n.Style.Join, n.Style.Cap, n.Style.MiterLimit, n.Style.DashPhase)
			w.u(len(n.Style.Dash))
			w.n(n.Style.Dash...)
		}
	case api.ImageNode:
		w.image(n.Image)
		w.n(n.Sampling)
	}
}
func (w *writer) edit(e api.Edit) {
	w.n(e.Kind, e.ID, e.Index, e.Depth)
	switch e.Kind {
	case api.InsertNode, api.ReplaceNode:
		w.node(e.Node)
	case api.SetBackground:
		w.c(e.Color)
	}
}

func sum(b []byte) []byte {
	return binary.LittleEndian.AppendUint32(slices.Clone(b), crc32.ChecksumIEEE(b))
}

func sceneBytes(s api.Scene) []byte {
	w := writer{b: []byte("GS1")}
	w.n(s.Width, s.Height)
	w.c(s.Background)
	w.u(len(s.Nodes))
	for _, n := range s.Nodes {
		w.node(n)
	}
	return sum(w.b)
}

func editBytes(e api.Edit) []byte {
	w := writer{b: []byte("GE1")}
	w.edit(e)
	return sum(w.b)
}

func deltaBytes(a api.Scene, edits []api.Edit) []byte {
	w := writer{b: []byte("GD1"), packed: true}
	all := sceneBytes(a)
	w.raw(all[len(all)-4:]...)
	w.u(len(edits))
	for _, e := range edits {
		w.edit(e)
	}
	return sum(w.b)
}

func isZero(s api.Scene) bool { return reflect.DeepEqual(s, api.Scene{}) }

func TestP46_1P46_3Encoding(t *testing.T) {
	white := api.Color{R: 255, G: 255, B: 255, A: 255}
	if b, e := EncodeScene(api.Scene{Width: 4, Height: 4, Background: white}); e != api.OK || !bytes.Equal(b[:10], []byte("GS1\x08\x08\xff\xff\xff\xff\x00")) || len(b) != 14 {
		t.Error("the chapter's example", b, e)
	}
	r := rand.New(rand.NewSource(1))
	for k := range 200 {
		s := samples.Scene(r.Intn)
		b, e := EncodeScene(s)
		if e != api.OK || !bytes.Equal(b, sceneBytes(s)) {
			t.Fatal("EncodeScene", e)
		}
		got, e := DecodeScene(b)
		if e != api.OK || !scene.Equal(got, s) {
			t.Fatal("DecodeScene", e)
		}
		if again, _ := EncodeScene(got); !bytes.Equal(again, b) {
			t.Fatal("encoding a decoded scene")
		}
		if k < 10 {
			one, _ := render.Page(s)
			two, _ := render.Page(got)
			if !reflect.DeepEqual(one, two) {
				t.Fatal("the rendering of a decoded scene")
			}
		}
		for _, n := range s.Nodes {
			w := writer{}
			w.node(n)
			if !bytes.Equal(EncodeNode(n), w.b) {
				t.Fatal("EncodeNode")
			}
		}
		edit := samples.Edit(r.Intn, s)
		b, e = EncodeEdit(edit)
		if e != api.OK || !bytes.Equal(b, editBytes(edit)) {
			t.Fatal("EncodeEdit", edit.Kind, e)
		}
		back, e := DecodeEdit(b)
		if e != api.OK || !sameEdit(back, edit) {
			t.Fatal("DecodeEdit", edit.Kind, e)
		}
	}
	if b, e := EncodeScene(api.Scene{}); len(b) != 0 || e != api.ErrScene {
		t.Error("EncodeScene of an invalid scene", e)
	}
	if b := EncodeNode(api.Node{}); len(b) != 0 {
		t.Error("EncodeNode of an invalid node", b)
	}
}

// TestLargeImages: images at the limits of their size.
func TestLargeImages(t *testing.T) {
	s := api.Scene{Width: 4, Height: 4, Nodes: []api.Node{node.Default(1, api.ImageNode)}}
	for _, size := range [][2]int{{4096, 1}, {1, 4096}, {4096, 16}, {16, 4096}, {256, 256}} {
		plain := scene.Clone(s)
		s.Nodes[0].Image = api.Image{Width: size[0], Height: size[1], Pixels: make([]api.Pixel, size[0]*size[1])}
		b, e := EncodeScene(s)
		if e != api.OK {
			t.Fatal("EncodeScene", size, e)
		}
		if got, e := DecodeScene(b); e != api.OK || !scene.Equal(got, s) {
			t.Error("DecodeScene", size, e)
		}
		d, _ := EncodeDelta(plain, s)
		if got, e := DecodeDelta(plain, d); e != api.OK || !scene.Equal(got, s) || len(d) > 100 {
			t.Error("DecodeDelta", size, e, len(d))
		}
	}
}

func sameEdit(a, b api.Edit) bool {
	return a.Kind == b.Kind && a.ID == b.ID && a.Index == b.Index && a.Depth == b.Depth && a.Color == b.Color && node.Equal(a.Node, b.Node)
}

func TestP46_1Edits(t *testing.T) {
	h := node.Default(3, api.ShapeNode)
	valid := map[int]api.Edit{api.InsertNode: {Kind: api.InsertNode, Index: -7, Node: h}, api.RemoveNode: {Kind: api.RemoveNode, ID: -3}, api.MoveNode: {Kind: api.MoveNode, ID: 1, Index: math.MinInt, Depth: math.MaxInt}, api.ReplaceNode: {Kind: api.ReplaceNode, Node: h}, api.SetBackground: {Kind: api.SetBackground, Color: api.Color{G: 7}}}
	used := map[int]string{api.InsertNode: "in", api.RemoveNode: "d", api.MoveNode: "die", api.ReplaceNode: "n", api.SetBackground: "c"}
	changes := map[byte]func(e *api.Edit){'d': func(e *api.Edit) { e.ID = 1 }, 'i': func(e *api.Edit) { e.Index = 1 }, 'e': func(e *api.Edit) { e.Depth = 1 }, 'c': func(e *api.Edit) { e.Color.B = 1 }, 'n': func(e *api.Edit) { e.Node = node.Default(5, api.GroupNode) }}
	for kind, e := range valid {
		if b, code := EncodeEdit(e); code != api.OK || !bytes.Equal(b, editBytes(e)) {
			t.Error("EncodeEdit", kind, code)
		}
		for field, change := range changes {
			c := e
			change(&c)
			want := api.ErrArgument
			if slices.Contains([]byte(used[kind]), field) {
				want = api.OK
			}
			if b, code := EncodeEdit(c); code != want || code != api.OK && len(b) != 0 {
				t.Error("EncodeEdit", kind, string(field), code)
			}
			if b := editBytes(c); want != api.OK && field != 'c' && field != 'n' {
				if got, code := DecodeEdit(b); code != api.ErrSyntax || !reflect.DeepEqual(got, api.Edit{}) {
					t.Error("DecodeEdit", kind, string(field), code)
				}
			}
		}
	}
	for kind, want := range map[int]api.Errno{0: api.ErrArgument, 6: api.ErrArgument, -1: api.ErrArgument} {
		if _, code := EncodeEdit(api.Edit{Kind: kind}); code != want {
			t.Error("an unknown kind", kind, code)
		}
		if _, code := DecodeEdit(editBytes(api.Edit{Kind: kind})); code != api.ErrSyntax {
			t.Error("decoding an unknown kind", kind, code)
		}
	}
	bad := node.Default(3, api.ShapeNode)
	bad.FillRule = 0
	for _, kind := range []int{api.InsertNode, api.ReplaceNode} {
		if b, code := EncodeEdit(api.Edit{Kind: kind, Node: bad}); code != api.ErrNode || len(b) != 0 {
			t.Error("an invalid node", kind, code)
		}
		if _, code := EncodeEdit(api.Edit{Kind: kind, Node: bad, ID: 1}); code != api.ErrArgument {
			t.Error("an unused field comes first", kind, code)
		}
		if _, code := DecodeEdit(editBytes(api.Edit{Kind: kind, Node: bad})); code != api.ErrSyntax {
			t.Error("decoding an invalid node", kind, code)
		}
	}
}

func TestP46_2Decoding(t *testing.T) {
	r := rand.New(rand.NewSource(2))
	for _, b := range [][]byte{nil, {1, 2, 3}} {
		if s, e := DecodeScene(b); e != api.ErrTruncated || !isZero(s) {
			t.Error("DecodeScene", b, e)
		}
		if _, e := DecodeEdit(b); e != api.ErrTruncated {
			t.Error("DecodeEdit", b, e)
		}
	}
	for _, content := range []string{"", "G", "GS", "GS1", "GE1", "GS2\x08\x08\xff\xff\xff\xff\x00", "GS1\x08\x08\xff\xff\xff\xff", "GS1\x08\x08\xff\xff\xff\xff\x00\x00", "GS1\x00\x08\xff\xff\xff\xff\x00", "GS1\x88\x00\x08\xff\xff\xff\xff\x00", "GS1\x08\x08\xff\xff\xff\xff\xff\xff\xff\xff\xff\xff\xff\xff\xff\x01", "GS1\x08\x08\xff\xff\xff\xff\x01"} {
		if s, e := DecodeScene(sum([]byte(content))); e != api.ErrSyntax || !isZero(s) {
			t.Errorf("DecodeScene(%q): %v", content, e)
		}
	}
	for _, content := range []string{"", "GE1", "GS1\x04\x02\x00\x00", "GE1\x04\x02\x00", "GE1\x04\x02\x00\x00\x00", "GE1\x84\x00\x02\x00\x00"} {
		if e, code := DecodeEdit(sum([]byte(content))); code != api.ErrSyntax || !reflect.DeepEqual(e, api.Edit{}) {
			t.Errorf("DecodeEdit(%q): %v", content, code)
		}
	}
	if e, code := DecodeEdit(sum([]byte("GE1\x04\x02\x00\x00"))); code != api.OK || e.Kind != api.RemoveNode || e.ID != 1 {
		t.Error("DecodeEdit of RemoveNode 1", e, code)
	}
	for range 300 {
		s := samples.Scene(r.Intn)
		good := sceneBytes(s)
		if _, e := DecodeScene(append(slices.Clone(good), 0)); e != api.ErrChecksum {
			t.Fatal("a byte too much", e)
		}
		damaged := slices.Clone(good)
		damaged[r.Intn(len(damaged))] ^= 1 << r.Intn(8)
		if _, e := DecodeScene(damaged); e != api.ErrChecksum {
			t.Fatal("a damaged byte", e)
		}
		content := slices.Clone(good[:len(good)-4])
		switch r.Intn(3) {
		case 0:
			content = content[:r.Intn(len(content))]
		case 1:
			content[r.Intn(len(content))] = byte(r.Intn(256))
		case 2:
			content = slices.Insert(content, r.Intn(len(content)), byte(r.Intn(3)))
		}
		b := sum(content)
		got, e := DecodeScene(b)
		if e == api.OK {
			if again, _ := EncodeScene(got); !bytes.Equal(again, b) {
				t.Fatal("a scene with two encodings")
			}
		} else if e != api.ErrSyntax || !isZero(got) {
			t.Fatal("malformed bytes", e)
		}
		edit := samples.Edit(r.Intn, s)
		content = editBytes(edit)
		content = content[:len(content)-4]
		content[r.Intn(len(content))] = byte(r.Intn(256))
		b = sum(content)
		back, e := DecodeEdit(b)
		if e == api.OK {
			if again, _ := EncodeEdit(back); !bytes.Equal(again, b) {
				t.Fatal("an edit with two encodings")
			}
		} else if e != api.ErrSyntax || !reflect.DeepEqual(back, api.Edit{}) {
			t.Fatal("malformed bytes", e)
		}
	}
}

func px(n int) api.Pixel { return api.Pixel{R: uint8(n), A: uint8(255 - n)} }

func TestP46_4Pixels(t *testing.T) {
	r := rand.New(rand.NewSource(3))
	for range 500 {
		var l []api.Pixel
		for range r.Intn(6) {
			l = append(l, slices.Repeat([]api.Pixel{px(r.Intn(3))}, []int{1, 2, 130}[r.Intn(3)])...)
		}
		b := EncodePixels(l)
		if !bytes.Equal(b, runs(l)) {
			t.Fatal("EncodePixels", l)
		}
		if got, e := DecodePixels(b, len(l)); e != api.OK || !slices.Equal(got, l) {
			t.Fatal("DecodePixels", e)
		}
		for _, n := range []int{len(l) + 1, len(l) - 1} {
			want := api.ErrSyntax
			if n < 0 {
				want = api.ErrArgument
			}
			if got, e := DecodePixels(b, n); e != want || len(got) != 0 {
				t.Fatal("another number of pixels", n, e)
			}
		}
	}
	for content, n := range map[string]int{"\x01\x00\x00\x00": 1, "\x00\x00\x00\x00\x00": 0, "\x01\x00\x00\x00\x00\x01\x00\x00\x00\x00": 2, "\x81\x00\x00\x00\x00\x00": 1, "\x01\x00\x00\x00\x00\x07": 1, "\xff\xff\xff\xff\xff\xff\xff\xff\xff\x01\x00\x00\x00\x00": 1, "\x01": 1} {
		if l, e := DecodePixels([]byte(content), n); e != api.ErrSyntax || len(l) != 0 {
			t.Errorf("DecodePixels(%q, %d): %v", content, n, e)
		}
	}
	for _, n := range []int{-1, 65537, math.MinInt, math.MaxInt} {
		if l, e := DecodePixels(nil, n); e != api.ErrArgument || len(l) != 0 {
			t.Error("DecodePixels", n, e)
		}
	}
	many := make([]api.Pixel, 65536)
	if l, e := DecodePixels(EncodePixels(many), 65536); e != api.OK || !slices.Equal(l, many) {
		t.Error("65536 pixels", e)
	}
	if l, e := DecodePixels(nil, 0); e != api.OK || len(l) != 0 || len(EncodePixels(nil)) != 0 {
		t.Error("no pixels", e)
	}
}

func TestP46_5P46_6Deltas(t *testing.T) {
	r := rand.New(rand.NewSource(4))
	for range 200 {
		a := samples.Scene(r.Intn)
		b := a
		for range r.Intn(4) {
			if next, e := scene.Apply(b, samples.Edit(r.Intn, b)); e == api.OK {
				b = next
			}
		}
		edits, _ := scene.Diff(a, b)
		d, e := EncodeDelta(a, b)
		if e != api.OK || !bytes.Equal(d, deltaBytes(a, edits)) {
			t.Fatal("EncodeDelta", e)
		}
		got, e := DecodeDelta(a, d)
		if e != api.OK || !scene.Equal(got, b) {
			t.Fatal("DecodeDelta", e)
		}
		content := slices.Clone(d[:len(d)-4])
		content[7+r.Intn(len(content)-7)] = byte(r.Intn(256))
		forged := sum(content)
		got, e = DecodeDelta(a, forged)
		if e == api.OK {
			if again, _ := EncodeDelta(a, got); !bytes.Equal(again, forged) {
				t.Fatal("a scene with two deltas")
			}
		} else if e != api.ErrSyntax || !isZero(got) {
			t.Fatal("malformed bytes", e)
		}
	}
	a := api.Scene{Width: 4, Height: 4, Nodes: []api.Node{node.Default(1, api.ShapeNode)}}
	b, c := scene.Clone(a), scene.Clone(a)
	b.Background.R, c.Background.G = 9, 9
	wide := scene.Clone(a)
	wide.Width++
	d, _ := EncodeDelta(a, b)
	all := sceneBytes(a)
	head := append([]byte("GD1"), all[len(all)-4:]...)
	remove := api.Edit{Kind: api.RemoveNode, ID: 1}
	for name, k := range map[string]struct {
		a api.Scene
		b []byte
		e api.Errno
	}{
		"scene first": {api.Scene{}, nil, api.ErrScene}, "truncated": {a, []byte{1, 2, 3}, api.ErrTruncated}, "checksum": {a, append(slices.Clone(d), 0), api.ErrChecksum}, "six bytes": {a, sum([]byte("GD1abc")), api.ErrSyntax}, "header": {a, sum([]byte("GS1abcdefgh")), api.ErrSyntax}, "no bytes": {a, sum(nil), api.ErrSyntax},
		"another scene": {c, d, api.ErrState}, "another scene, nothing else": {c, sum(head), api.ErrState}, "no edits": {a, sum(head), api.ErrSyntax}, "a byte behind": {a, sum(append(slices.Clone(d[:len(d)-4]), 0)), api.ErrSyntax},
		"edits that fail": {a, deltaBytes(a, []api.Edit{remove, remove}), api.ErrSyntax}, "edits that Diff would not choose": {a, deltaBytes(a, []api.Edit{{Kind: api.SetBackground}, remove}), api.ErrSyntax},
	} {
		if s, e := DecodeDelta(k.a, k.b); e != k.e || !isZero(s) {
			t.Error("DecodeDelta:", name, e)
		}
	}
	if s, e := DecodeDelta(a, deltaBytes(a, []api.Edit{remove})); e != api.OK || len(s.Nodes) != 0 {
		t.Error("DecodeDelta", e)
	}
	for _, k := range []struct {
		a, b api.Scene
		e    api.Errno
	}{{api.Scene{}, a, api.ErrScene}, {a, api.Scene{}, api.ErrScene}, {a, wide, api.ErrArgument}} {
		if d, e := EncodeDelta(k.a, k.b); e != k.e || len(d) != 0 {
			t.Error("EncodeDelta", e, k.e)
		}
	}
	h := scene.Clone(a)
	h.Nodes[0].Path = path.FromRect(api.Rect{X1: 1, Y1: 1})
	d, _ = EncodeDelta(a, h)
	if s, e := DecodeDelta(a, d); e != api.OK || !scene.Equal(s, h) {
		t.Error("a delta with one replacement", e)
	}
}
