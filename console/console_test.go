package console

import (
	"fmt"
	"math/rand"
	"strings"
	"testing"

	"grisaille/api"
	"grisaille/bitmap"
	"grisaille/checksum"
	"grisaille/history"
	"grisaille/hittest"
	"grisaille/numtext"
	"grisaille/quoting"
	"grisaille/render"
	"grisaille/retained"
	"grisaille/samples"
	"grisaille/scenebin"
	"grisaille/scenetext"
)

const emptyScene = "scene 20 18 #010203ff\n"

func line(fields ...string) string { return quoting.JoinFields(fields) }

func hexEdit(e api.Edit) string {
	b, _ := scenebin.EncodeEdit(e)
	return numtext.EncodeHex(b)
}

func background(b int) api.Edit {
	return api.Edit{Kind: api.SetBackground, Color: api.Color{B: uint8(b), A: 255}}
}

func TestP51_1Errors(t *testing.T) {
	for _, d := range []*Console{nil, {}} {
		if s, e := d.Execute("nonsense"); s != "" || e != api.ErrNil {
			t.Error("a console that New did not create", s, e)
		}
	}
	malformed := []string{"", " ", "Open", "close", "*", "sum ", "sum 1", "undo 0", "redo 0", "show 1", "dirty 1", "keptsum 1", "bytes 1", "open", "open a b", "edit", "edit 0", "edit 0g", "edit AB", "edit 00 00", "redraw", "redraw x", "redraw 1 2", "redraw 01", "redraw 9223372036854775808", "pixel 1", "pixel 1 x", "pixel 1 2 3", "kept 1", "kept x 1", "hit 1", "hit 1 -0", "hit 1 2 3", "pixel  1 2", "sum\n", "*zz"}
	proper := []string{line("edit", hexEdit(background(1))), "edit 00", "undo", "redo", "show", "redraw 1", "dirty", "pixel 0 0", "kept 0 0", "hit 0 0", "sum", "keptsum", "bytes"}
	d := New()
	for _, s := range malformed {
		if r, e := d.Execute(s); r != "" || e != api.ErrCommand {
			t.Errorf("Execute(%q) = %q, %v", s, r, e)
		}
	}
	for _, s := range proper {
		if r, e := d.Execute(s); r != "" || e != api.ErrState {
			t.Errorf("without a scene: Execute(%q) = %q, %v", s, r, e)
		}
	}
	for text, want := range map[string]api.Errno{"": api.ErrSyntax, "scene": api.ErrSyntax, "scene 0 1 #00000000\n": api.ErrScene, "scene 99999999999999999999 1 #00000000\n": api.ErrRange, strings.Repeat("x", 65537): api.ErrLimit} {
		if r, e := d.Execute(line("open", text)); r != "" || e != want {
			t.Errorf("open %.20q: %v", text, e)
		}
		if _, e := d.Execute("sum"); e != api.ErrState {
			t.Error("a failed open opens nothing", e)
		}
	}
	if r, e := d.Execute(line("open", emptyScene)); r != "ok 0" || e != api.OK {
		t.Fatal("open", r, e)
	}
	for _, s := range malformed {
		if r, e := d.Execute(s); r != "" || e != api.ErrCommand {
			t.Errorf("Execute(%q) = %q, %v", s, r, e)
		}
	}
	for s, want := range map[string]api.Errno{"edit 00": api.ErrTruncated, "edit 0000000000": api.ErrChecksum, line("edit", hexEdit(api.Edit{Kind: api.RemoveNode, ID: 1})): api.ErrNotFound, "undo": api.ErrState, "redo": api.ErrState, "pixel 20 0": api.ErrRange, "pixel 0 -1": api.ErrRange, line("open", "scene"): api.ErrSyntax} {
		if r, e := d.Execute(s); r != "" || e != want {
			t.Errorf("Execute(%q) = %q, %v", s, r, e)
		}
	}
	if r, e := d.Execute("show"); e != api.OK || r != line(emptyScene) {
		t.Error("commands that fail change nothing", r, e)
	}
}

func TestP51_1Session(t *testing.T) {
	d := New()
	for i, c := range [][2]string{
		{line("open", emptyScene), "ok 0"}, {"dirty", "0"}, {"pixel 3 4", "1 2 3 255"}, {line("edit", hexEdit(background(9))), "ok 4"}, {"pixel 3 4", "0 0 9 255"}, {"kept 3 4", "1 2 3 255"}, {"dirty", "4 0 1 2 3"}, {"redraw 1", "1"}, {"kept 3 4", "0 0 9 255"}, {"kept 16 4", "1 2 3 255"}, {"kept 20 4", "0 0 0 0"}, {"dirty", "3 1 2 3"},
		{"redraw -1", "0"}, {"redraw 99", "3"}, {"dirty", "0"}, {line("edit", hexEdit(background(7))), "ok 4"}, {"undo", "ok 1"}, {"dirty", "0"}, {"kept 0 0", "0 0 9 255"}, {"redo", "ok 2"}, {"kept 0 0", "0 0 7 255"}, {"hit 0 0", "0"}, {"undo", "ok 1"}, {"undo", "ok 0"}, {"show", line(emptyScene)}, {"bytes", "47533128240102 03ff00"},
	} {
		r, e := d.Execute(c[0])
		if c[0] == "bytes" {
			c[1], r = strings.ReplaceAll(c[1], " ", ""), r[:max(0, len(r)-8)]
		}
		if r != c[1] || e != api.OK {
			t.Errorf("step %d: %q gives %q, %v, want %q", i, c[0], r, e, c[1])
		}
	}
}

func TestP51_2Run(t *testing.T) {
	if s, e := Run("sum\n"); s != "error 20\n" || e != api.OK {
		t.Error("the chapter's example", s, e)
	}
	text := quoting.JoinLines([]string{"sum", line("open", emptyScene), "what", "", "undo", "hit 5 5", "pixel 99 99"})
	if s, e := Run(text); s != "error 20\nok 0\nerror 21\nerror 21\nerror 20\n0\nerror 6\n" || e != api.OK {
		t.Error("Run", s, e)
	}
	for text, want := range map[string]api.Errno{"sum": api.ErrSyntax, strings.Repeat("x", 65536): api.ErrSyntax, strings.Repeat("\n", 65537): api.ErrLimit, "": api.OK} {
		if s, e := Run(text); s != "" || e != want {
			t.Errorf("Run(%.10q) = %.20q, %v", text, s, e)
		}
	}
	if s, e := Run(strings.Repeat("\n", 65536)); e != api.OK || s != strings.Repeat("error 21\n", 65536) {
		t.Error("a text at the limit", e)
	}
}

// TestP51_3Consistency: the responses agree with the packages.
func TestP51_3Consistency(t *testing.T) {
	r := rand.New(rand.NewSource(1))
	for range 15 {
		s := samples.Scene(r.Intn)
		text, _ := scenetext.Format(s)
		d := New()
		h, _ := history.New(s)
		k, _ := retained.New(s, 16, 16)
		expect := func(command, want string, code api.Errno) {
			t.Helper()
			if code != api.OK {
				want = ""
			}
			if got, e := d.Execute(command); got != want || e != code {
				t.Fatalf("%.60q gives %.80q, %v, want %.80q, %v", command, got, e, want, code)
			}
		}
		expect(line("open", text), fmt.Sprint("ok ", len(s.Nodes)), api.OK)
		for range 6 {
			switch r.Intn(4) {
			case 0:
				code := h.Undo()
				if code == api.OK {
					k, _ = retained.New(h.Scene(), 16, 16)
				}
				n, _ := h.Len()
				expect("undo", fmt.Sprint("ok ", n), code)
			case 1:
				code := h.Redo()
				if code == api.OK {
					k, _ = retained.New(h.Scene(), 16, 16)
				}
				n, _ := h.Len()
				expect("redo", fmt.Sprint("ok ", n), code)
			default:
				edit := samples.Edit(r.Intn, h.Scene())
				code := h.Apply(edit)
				if code == api.OK {
					k.Edit(edit)
				}
				expect(line("edit", hexEdit(edit)), fmt.Sprint("ok ", len(k.DirtyTiles())), code)
			}
			now := h.Scene()
			page, _ := render.Page(now)
			x, y := r.Intn(now.Width+1), r.Intn(now.Height)
			p, code := render.Pixel(now, x, y)
			expect(fmt.Sprint("pixel ", x, " ", y), fmt.Sprint(p.R, " ", p.G, " ", p.B, " ", p.A), code)
			p = bitmap.At(k.Bitmap(), x, y)
			expect(fmt.Sprint("kept ", x, " ", y), fmt.Sprint(p.R, " ", p.G, " ", p.B, " ", p.A), api.OK)
			id, _ := hittest.TopNodeAt(now, api.Point{X: 200 * x, Y: 200 * y})
			expect(fmt.Sprint("hit ", 200*x, " ", 200*y), fmt.Sprint(id), api.OK)
			expect("sum", fmt.Sprint(checksum.FNV64(bitmap.Bytes(page))), api.OK)
			expect("keptsum", fmt.Sprint(checksum.FNV64(bitmap.Bytes(k.Bitmap()))), api.OK)
			shown, code := scenetext.Format(now)
			expect("show", line(shown), code)
			b, code := scenebin.EncodeScene(now)
			expect("bytes", numtext.EncodeHex(b), code)
			if r.Intn(2) == 0 {
				expect("redraw 3", fmt.Sprint(k.Redraw(3)), api.OK)
			}
			dirty := fmt.Sprint(len(k.DirtyTiles()))
			for _, i := range k.DirtyTiles() {
				dirty += fmt.Sprint(" ", i)
			}
			expect("dirty", dirty, api.OK)
			if len(k.DirtyTiles()) == 0 {
				a, _ := d.Execute("sum")
				if b, _ := d.Execute("keptsum"); a != b {
					t.Fatal("no tile is dirty, but the sums differ")
				}
			}
		}
	}
}
