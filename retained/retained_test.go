package retained

import (
	"math"
	"math/rand"
	"reflect"
	"slices"
	"testing"

	"grisaille/api"
	"grisaille/bitmap"
	"grisaille/damage"
	"grisaille/rect"
	"grisaille/region"
	"grisaille/render"
	"grisaille/samples"
	"grisaille/scene"
	"grisaille/tile"
)

func background(b int) api.Edit {
	return api.Edit{Kind: api.SetBackground, Color: api.Color{B: uint8(b), A: 255}}
}

func TestP49_1New(t *testing.T) {
	for name, c := range map[string]struct {
		s    api.Scene
		w, h int
		e    api.Errno
	}{"scene": {api.Scene{}, 0, 0, api.ErrScene}, "width": {api.Scene{Width: 5, Height: 5}, 0, 1, api.ErrArgument}, "height": {api.Scene{Width: 5, Height: 5}, 1, -1, api.ErrArgument}, "tiles": {api.Scene{Width: 17, Height: 16}, 1, 1, api.ErrArgument}, "good": {api.Scene{Width: 16, Height: 16}, 1, 1, api.OK}} {
		if k, e := New(c.s, c.w, c.h); e != c.e || (k == nil) != (e != api.OK) {
			t.Error("New:", name, e)
		}
	}
	r := rand.New(rand.NewSource(1))
	for range 20 {
		s := samples.Scene(r.Intn)
		k, e := New(s, 2, 3)
		page, _ := render.Page(s)
		if e != api.OK || !bitmap.Equal(k.Bitmap(), page) || !scene.Equal(k.Scene(), s) || len(k.DirtyTiles()) != 0 || k.RedrawCount() != 0 {
			t.Fatal("a new canvas", e)
		}
		copied := scene.Clone(s)
		s.Nodes[0].ID = 99
		b := k.Bitmap()
		b.Pixels[0].A++
		other := k.Scene()
		other.Nodes[0].ID = 98
		if !scene.Equal(k.Scene(), copied) || !bitmap.Equal(k.Bitmap(), page) {
			t.Fatal("the canvas shares memory")
		}
	}
}

func TestP49_1P49_2EditsAndRedraws(t *testing.T) {
	k, _ := New(api.Scene{Width: 5, Height: 4}, 2, 2)
	if e := k.Edit(background(9)); e != api.OK || !slices.Equal(k.DirtyTiles(), []int{0, 1, 2, 3, 4, 5}) {
		t.Error("after SetBackground all tiles are dirty", k.DirtyTiles(), e)
	}
	for _, most := range []int{0, -1, math.MinInt} {
		if k.Redraw(most) != 0 || k.RedrawCount() != 0 {
			t.Error("Redraw", most)
		}
	}
	if n := k.Redraw(2); n != 2 || !slices.Equal(k.DirtyTiles(), []int{2, 3, 4, 5}) || k.RedrawCount() != 2 {
		t.Error("Redraw(2)", n, k.DirtyTiles())
	}
	if e := k.RedrawTile(4); e != api.OK || !slices.Equal(k.DirtyTiles(), []int{2, 3, 5}) || k.RedrawCount() != 3 {
		t.Error("RedrawTile", e, k.DirtyTiles())
	}
	if e := k.RedrawTile(4); e != api.OK || k.RedrawCount() != 4 {
		t.Error("RedrawTile of a tile that is not dirty", e)
	}
	for _, i := range []int{-1, 6, math.MinInt, math.MaxInt} {
		if e := k.RedrawTile(i); e != api.ErrNotFound || k.RedrawCount() != 4 {
			t.Error("RedrawTile", i, e)
		}
	}
	b := k.Bitmap()
	if bitmap.At(b, 0, 0).B != 9 || bitmap.At(b, 2, 2).B != 9 || bitmap.At(b, 4, 0).B != 0 || bitmap.At(b, 0, 2).B != 0 {
		t.Error("redrawn tiles are up to date, others are not", b)
	}
	if n := k.Redraw(math.MaxInt); n != 3 || len(k.DirtyTiles()) != 0 || k.RedrawCount() != 7 || k.Redraw(5) != 0 {
		t.Error("Redraw of all", n)
	}
	before := k.Scene()
	for _, e := range []api.Edit{{}, {Kind: api.RemoveNode, ID: 7}, {Kind: api.InsertNode, Index: 5}} {
		_, want := scene.Apply(before, e)
		if code := k.Edit(e); code != want || !scene.Equal(k.Scene(), before) || len(k.DirtyTiles()) != 0 {
			t.Error("an edit that fails", code, want)
		}
	}
	for _, k := range []*Canvas{nil, {}} {
		if k.Edit(background(1)) != api.ErrNil || !reflect.DeepEqual(k.Scene(), api.Scene{}) || !reflect.DeepEqual(k.Bitmap(), api.Bitmap{}) || len(k.DirtyTiles()) != 0 || k.Redraw(9) != 0 || k.RedrawTile(0) != api.ErrNil || k.RedrawCount() != 0 {
			t.Error("a canvas that New did not create")
		}
	}
}

func TestP49_3DirtyTilesSuffice(t *testing.T) {
	r := rand.New(rand.NewSource(2))
	for range 30 {
		s := samples.Scene(r.Intn)
		w, h := 1+r.Intn(4), 1+r.Intn(4)
		page := render.PageRect(s)
		k, e := New(s, w, h)
		if e != api.OK {
			t.Fatal(e)
		}
		dirty := map[int]bool{}
		for range 6 {
			edit := samples.Edit(r.Intn, s)
			rects, want := damage.DamageRects(s, edit)
			if code := k.Edit(edit); code != want {
				t.Fatal("Edit", code, want)
			}
			if want == api.OK {
				s, _ = scene.Apply(s, edit)
			}
			for _, i := range region.TilesTouched(rects, page, w, h) {
				dirty[i] = true
			}
			if r.Intn(2) == 0 {
				most := r.Intn(3)
				for _, i := range k.DirtyTiles()[:min(most, len(k.DirtyTiles()))] {
					delete(dirty, i)
				}
				k.Redraw(most)
			}
			l := k.DirtyTiles()
			if !slices.IsSorted(l) || len(l) != len(dirty) || !scene.Equal(k.Scene(), s) {
				t.Fatal("the dirty tiles", l, dirty)
			}
			for _, i := range l {
				if !dirty[i] {
					t.Fatal("the dirty tiles", l, dirty)
				}
			}
			checkClean(t, k, page, w, h)
		}
		k.Redraw(999)
		checkClean(t, k, page, w, h)
		if len(k.DirtyTiles()) != 0 {
			t.Fatal("dirty tiles are left")
		}
	}
}

// checkClean: every tile that is not dirty shows the page of the scene.
func checkClean(t *testing.T, k *Canvas, page api.Rect, w, h int) {
	t.Helper()
	want, _ := render.Page(k.Scene())
	got := k.Bitmap()
	for i := range tile.Count(page, w, h) {
		r := tile.Bounds(page, w, h, i)
		a, _ := bitmap.Crop(got, r)
		b, _ := bitmap.Crop(want, r)
		if !slices.Contains(k.DirtyTiles(), i) && !bitmap.Equal(a, b) || rect.Empty(r) {
			t.Fatal("a tile that is not dirty is out of date", i)
		}
	}
}
