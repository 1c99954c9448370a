package history

import (
	"bytes"
	"encoding/binary"
	"hash/crc32"
	"math/rand"
	"reflect"
	"slices"
	"testing"

	"grisaille/api"
	"grisaille/binenc"
	"grisaille/node"
	"grisaille/render"
	"grisaille/samples"
	"grisaille/scene"
	"grisaille/scenebin"
)

func background(b int) api.Edit {
	return api.Edit{Kind: api.SetBackground, Color: api.Color{B: uint8(b), A: 255}}
}

func replace(id, opacity int) api.Edit {
	n := node.Default(id, api.GroupNode)
	n.Opacity = uint8(opacity)
	return api.Edit{Kind: api.ReplaceNode, Node: n}
}

func start() api.Scene {
	return api.Scene{Width: 4, Height: 4, Nodes: []api.Node{node.Default(1, api.GroupNode), node.Default(2, api.GroupNode)}}
}

func equalEdits(a, b []api.Edit) bool {
	return slices.EqualFunc(a, b, func(e, f api.Edit) bool {
		return e.Kind == f.Kind && e.ID == f.ID && e.Index == f.Index && e.Depth == f.Depth && e.Color == f.Color && node.Equal(e.Node, f.Node)
	})
}

func TestP50_1UndoRedo(t *testing.T) {
	if h, e := New(api.Scene{}); h != nil || e != api.ErrScene {
		t.Error("New of an invalid scene", e)
	}
	s := start()
	h, e := New(s)
	if e != api.OK || h.Undo() != api.ErrState || h.Redo() != api.ErrState || !scene.Equal(h.Scene(), s) {
		t.Error("a new history", e)
	}
	s.Nodes[0].ID = 9
	if !scene.Equal(h.Scene(), start()) {
		t.Error("New shares memory")
	}
	edit := replace(1, 7)
	if e := h.Apply(edit); e != api.OK || h.Scene().Nodes[0].Opacity != 7 {
		t.Error("Apply", e)
	}
	edit.Node.Transform.A.Num.Mag[0] = 5
	if h.Edits()[0].Node.Transform.A.Num.Mag[0] != 1 {
		t.Error("Apply shares memory with the edit")
	}
	after := h.Scene()
	if h.Undo() != api.OK || !scene.Equal(h.Scene(), start()) || h.Undo() != api.ErrState {
		t.Error("Undo")
	}
	if h.Redo() != api.OK || !scene.Equal(h.Scene(), after) || h.Redo() != api.ErrState {
		t.Error("Redo")
	}
	for _, bad := range []api.Edit{{}, {Kind: api.RemoveNode, ID: 7}, {Kind: api.InsertNode, Index: 9}} {
		_, want := scene.Apply(after, bad)
		h.Undo()
		if e := h.Apply(bad); e == api.OK || h.Redo() != api.OK || !scene.Equal(h.Scene(), after) {
			t.Error("an edit that fails discards nothing", e, want)
		}
	}
	h.Apply(background(1))
	h.Apply(background(2))
	h.Undo()
	h.Undo()
	h.Apply(background(3))
	if n, all := h.Len(); n != 2 || all != 2 || h.Redo() != api.ErrState || h.Scene().Background.B != 3 {
		t.Error("a new edit discards what has been undone", n, all)
	}
	many, _ := New(start())
	for i := range 256 {
		if e := many.Apply(background(i)); e != api.OK {
			t.Fatal("edit", i, e)
		}
	}
	if e := many.Apply(api.Edit{}); e != api.ErrLimit {
		t.Error("257 edits", e)
	}
	many.Undo()
	if e := many.Apply(background(5)); e != api.OK {
		t.Error("an edit in place of one that has been undone", e)
	}
	b, _ := many.Save()
	if again, e := Load(b); e != api.OK || !equalEdits(again.Edits(), many.Edits()) {
		t.Error("256 saved edits", e)
	}
}

func TestP50_2Queries(t *testing.T) {
	h, _ := New(start())
	h.Apply(background(1))
	h.Apply(replace(2, 5))
	h.Undo()
	if n, all := h.Len(); n != 1 || all != 2 {
		t.Error("Len", n, all)
	}
	l := h.Edits()
	if !equalEdits(l, []api.Edit{background(1), replace(2, 5)}) {
		t.Error("Edits", l)
	}
	l[1].Node.Transform.A.Num.Mag[0] = 9
	s := h.Scene()
	s.Nodes[0].ID = 77
	if !equalEdits(h.Edits(), []api.Edit{background(1), replace(2, 5)}) || h.Scene().Nodes[0].ID != 1 {
		t.Error("results share memory with the history")
	}
	for _, h := range []*History{nil, {}} {
		n, all := h.Len()
		b, e := h.Save()
		k, f := h.Compact()
		if h.Apply(background(1)) != api.ErrNil || h.Undo() != api.ErrNil || h.Redo() != api.ErrNil || !reflect.DeepEqual(h.Scene(), api.Scene{}) || n+all != 0 || len(h.Edits()) != 0 || e != api.ErrNil || len(b) != 0 || k != 0 || f != api.ErrNil || h.Clone() != nil {
			t.Error("a history that was not created by New or Load")
		}
	}
	raw := replace(1, 3) // coefficients stay as they came
	raw.Node.Transform.A.Num.Mag = []uint32{2}
	raw.Node.Transform.A.Den.Mag = []uint32{2, 0}
	h.Apply(raw)
	if got := h.Edits()[1]; !reflect.DeepEqual(got.Node.Transform, raw.Node.Transform) {
		t.Error("Edits changes coefficients", got.Node.Transform)
	}
}

func sum(b []byte) []byte {
	return binary.LittleEndian.AppendUint32(slices.Clone(b), crc32.ChecksumIEEE(b))
}

// saved is the oracle of Save.
func saved(initial api.Scene, applied int, edits []api.Edit) []byte {
	s, _ := scenebin.EncodeScene(initial)
	b := binenc.PutBytes(s)
	b = binary.AppendUvarint(binary.AppendUvarint(b, uint64(applied)), uint64(len(edits)))
	for _, e := range edits {
		part, _ := scenebin.EncodeEdit(e)
		b = append(b, binenc.PutBytes(part)...)
	}
	return sum(b)
}

// random returns a history of random edits, and its initial scene.
func random(r *rand.Rand) (*History, api.Scene) {
	s := samples.Scene(r.Intn)
	h, _ := New(s)
	for range r.Intn(9) {
		switch r.Intn(4) {
		case 0:
			h.Undo()
		case 1:
			h.Redo()
		default:
			h.Apply(samples.Edit(r.Intn, h.Scene()))
		}
	}
	return h, s
}

func TestP50_3P50_4SaveAndLoad(t *testing.T) {
	r := rand.New(rand.NewSource(1))
	for k := range 150 {
		h, s := random(r)
		n, all := h.Len()
		if want, _, _ := scene.ApplyAll(s, h.Edits()[:n]); !scene.Equal(h.Scene(), want) {
			t.Fatal("Scene", n, all)
		}
		b, e := h.Save()
		if e != api.OK || !bytes.Equal(b, saved(s, n, h.Edits())) {
			t.Fatal("Save", e)
		}
		l, e := Load(b)
		if e != api.OK {
			t.Fatal("Load", e)
		}
		m, total := l.Len()
		if m != n || total != all || !equalEdits(l.Edits(), h.Edits()) || !scene.Equal(l.Scene(), h.Scene()) {
			t.Fatal("Load of Save", m, n, total, all)
		}
		if k < 8 {
			one, _ := render.Page(h.Scene())
			two, _ := render.Page(l.Scene())
			if !reflect.DeepEqual(one, two) {
				t.Fatal("the rendering of a restored scene")
			}
		}
		before := l.Scene()
		if l.Undo() == api.OK {
			if l.Redo() != api.OK || !scene.Equal(l.Scene(), before) {
				t.Fatal("Redo does not invert Undo")
			}
		}
		for h.Undo() == api.OK {
		}
		if !scene.Equal(h.Scene(), s) {
			t.Fatal("undoing all edits")
		}
		content := slices.Clone(b[:len(b)-4])
		content[r.Intn(len(content))] = byte(r.Intn(256))
		forged := sum(content)
		if got, e := Load(forged); e == api.OK {
			if again, _ := got.Save(); !bytes.Equal(again, forged) {
				t.Fatal("a history with two forms")
			}
		} else if e != api.ErrSyntax || got != nil {
			t.Fatal("malformed bytes", e)
		}
	}
	s := start()
	remove := api.Edit{Kind: api.RemoveNode, ID: 1}
	good := saved(s, 1, []api.Edit{remove})
	for name, c := range map[string]struct {
		b []byte
		e api.Errno
	}{
		"nothing": {nil, api.ErrTruncated}, "checksum": {append(slices.Clone(good), 1), api.ErrChecksum}, "empty": {sum(nil), api.ErrSyntax}, "more applied than there are": {saved(s, 2, []api.Edit{remove}), api.ErrSyntax}, "an edit that fails": {saved(s, 0, []api.Edit{remove, remove}), api.ErrSyntax},
		"a byte behind": {sum(append(slices.Clone(good[:len(good)-4]), 0)), api.ErrSyntax}, "truncated": {sum(good[:len(good)-5]), api.ErrSyntax}, "257 edits": {saved(s, 5, slices.Repeat([]api.Edit{background(1)}, 257)), api.ErrSyntax}, "no scene": {sum([]byte{0, 0, 0}), api.ErrSyntax}, "an invalid edit": {saved(s, 0, []api.Edit{{}}), api.ErrSyntax},
	} {
		if h, e := Load(c.b); h != nil || e != c.e {
			t.Error("Load:", name, e)
		}
	}
	if h, e := Load(good); e != api.OK || len(h.Scene().Nodes) != 1 {
		t.Error("Load", e)
	}
}

func TestP50_5P50_6CompactAndClone(t *testing.T) {
	h, _ := New(start())
	h.Apply(background(1))
	h.Apply(background(2))
	h.Apply(background(3))
	if n, e := h.Compact(); n != 2 || e != api.OK || !equalEdits(h.Edits(), []api.Edit{background(3)}) || h.Scene().Background.B != 3 {
		t.Error("the chapter's example", n, e)
	}
	h.Apply(replace(1, 4))
	h.Apply(replace(2, 5))
	h.Apply(replace(2, 6))
	h.Apply(background(4))
	h.Apply(replace(2, 7))
	h.Apply(background(8))
	h.Apply(background(9))
	h.Undo()
	h.Undo()
	if n, e := h.Compact(); n != 3 || e != api.OK || !equalEdits(h.Edits(), []api.Edit{background(3), replace(1, 4), replace(2, 6), background(4), replace(2, 7)}) {
		t.Error("Compact", n, e, len(h.Edits()))
	}
	if h.Redo() != api.ErrState || h.Undo() != api.OK || h.Scene().Nodes[1].Opacity != 6 {
		t.Error("after Compact")
	}
	r := rand.New(rand.NewSource(2))
	for range 150 {
		h, _ := random(r)
		for range r.Intn(3) {
			h.Apply(background(r.Intn(9)))
		}
		n, _ := h.Len()
		want := h.Scene()
		all := h.Edits()
		copied := h.Clone()
		if m, total := copied.Len(); m != n || total != len(all) || !scene.Equal(copied.Scene(), want) || !equalEdits(copied.Edits(), all) {
			t.Fatal("Clone")
		}
		kept := 0
		for i := range n {
			over := i+1 < n && all[i].Kind == all[i+1].Kind && (all[i].Kind == api.SetBackground || all[i].Kind == api.ReplaceNode && all[i].Node.ID == all[i+1].Node.ID)
			if !over {
				kept++
			}
		}
		discarded, e := h.Compact()
		m, total := h.Len()
		if e != api.OK || discarded != len(all)-kept || m != kept || total != kept || !scene.Equal(h.Scene(), want) {
			t.Fatal("Compact", discarded, kept, len(all))
		}
		if again, _ := h.Compact(); again != 0 {
			t.Fatal("a second Compact discards", again)
		}
		if b, _ := h.Save(); true {
			if l, e := Load(b); e != api.OK || !scene.Equal(l.Scene(), want) {
				t.Fatal("a compacted history is saved and loaded", e)
			}
		}
		if m, total := copied.Len(); m != n || total != len(all) {
			t.Fatal("Compact changes the clone")
		}
		for copied.Undo() == api.OK {
		}
		copied.Apply(background(77))
		if !scene.Equal(h.Scene(), want) {
			t.Fatal("a clone influences the history")
		}
	}
}
