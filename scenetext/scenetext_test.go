package scenetext

import (
	"math/rand"
	"reflect"
	"slices"
	"strings"
	"testing"

	"grisaille/affine"
	"grisaille/api"
	"grisaille/node"
	"grisaille/rational"
	"grisaille/render"
	"grisaille/samples"
	"grisaille/scene"
)

// full has every kind of line and of paint. A blank in a path is written as *20.
var full = []string{
	"scene 4 5 #ffffffff",
	"group 1 0 255 hue 1 0",
	"transform 1 0 0 1 -3/2 7",
	"clip evenodd M*200*200*20L*209*200*20L*209*209*20Z",
	"shape 2 1 nonzero M*200*200*20Q*201*202*203*204*20C*201*202*203*204*205*206",
	"transform 1/2 0 0 1/3 0 0",
	"fill linear 0 0 512 -1 pad 1 0 0 1 0 0 0 #000000ff 65536 #ffffffff",
	"stroke 256 miter butt 1024 5 2 10 20 radial 1 2 300 reflect 1 0 0 1 0 0 7 #01020304",
	"image 3 0 nearest 2 1 000000ff01020304",
	"transform 0 1 -1 0 0 0",
	"clip nonzero M*201*201*20L*202*202",
	"shape 4 0 evenodd *",
	"transform 1 0 0 1 0 0",
	"stroke 1 round round 256 0 0 pattern none bilinear 1 0 0 1 0 0 1 2 0000000001010101",
	"shape 5 0 nonzero *",
	"transform 1 0 0 1 0 0",
	"fill solid #01020380",
	"stroke 2 bevel square 65536 0 0 pattern repeat nearest 1 0 0 1 0 0 1 1 00000000",
}

func text(lines ...string) string { return strings.Join(lines, "\n") + "\n" }

func fullScene() api.Scene {
	n := func(x, d int) api.Rat { f, _ := rational.FromInts(x, d); return f }
	pt := func(x, y int) api.Point { return api.Point{X: x, Y: y} }
	id := affine.Identity()
	g := api.Node{ID: 1, Kind: api.GroupNode, Transform: affine.Translate(n(-3, 2), n(7, 1)), Opacity: 255, Blend: api.Hue, Isolated: true, ClipRule: api.EvenOdd}
	g.Clip = []api.Segment{{Verb: 1}, {Verb: 2, A: pt(9, 0)}, {Verb: 2, A: pt(9, 9)}, {Verb: 5}}
	h := api.Node{ID: 2, Kind: api.ShapeNode, Depth: 1, Transform: affine.Scale(n(1, 2), n(1, 3)), FillRule: api.NonZero}
	h.Path = []api.Segment{{Verb: 1}, {Verb: 3, A: pt(1, 2), B: pt(3, 4)}, {Verb: 4, A: pt(1, 2), B: pt(3, 4), C: pt(5, 6)}}
	h.Fill = []api.Paint{{Kind: api.LinearGradient, P1: pt(512, -1), Spread: api.Pad, Transform: id, Stops: []api.ColorStop{{Color: api.Color{A: 255}}, {Offset: 65536, Color: api.Color{R: 255, G: 255, B: 255, A: 255}}}}}
	h.Style = api.StrokeStyle{Width: 256, Join: api.Miter, Cap: api.Butt, MiterLimit: 1024, DashPhase: 5, Dash: []int{10, 20}}
	h.Stroke = []api.Paint{{Kind: api.RadialGradient, P0: pt(1, 2), Radius: 300, Spread: api.Reflect, Transform: id, Stops: []api.ColorStop{{Offset: 7, Color: api.Color{R: 1, G: 2, B: 3, A: 4}}}}}
	p := api.Node{ID: 3, Kind: api.ImageNode, Transform: affine.QuarterTurn(1), Sampling: api.Nearest, Image: api.Image{Width: 2, Height: 1, Pixels: []api.Pixel{{A: 255}, {R: 1, G: 2, B: 3, A: 4}}}, ClipRule: api.NonZero}
	p.Clip = []api.Segment{{Verb: 1, A: pt(1, 1)}, {Verb: 2, A: pt(2, 2)}}
	k := api.Node{ID: 4, Kind: api.ShapeNode, Transform: id, FillRule: api.EvenOdd, Style: api.StrokeStyle{Width: 1, Join: api.Round, Cap: api.Round, MiterLimit: 256}}
	k.Stroke = []api.Paint{{Kind: api.PatternPaint, Sampling: api.Bilinear, Transform: id, Image: api.Image{Width: 1, Height: 2, Pixels: []api.Pixel{{}, {R: 1, G: 1, B: 1, A: 1}}}}}
	l := api.Node{ID: 5, Kind: api.ShapeNode, Transform: id, FillRule: api.NonZero, Style: api.StrokeStyle{Width: 2, Join: api.Bevel, Cap: api.Square, MiterLimit: 65536}}
	l.Fill = []api.Paint{{Kind: api.SolidPaint, Color: api.Color{R: 1, G: 2, B: 3, A: 128}}}
	l.Stroke = []api.Paint{{Kind: api.PatternPaint, Spread: api.Repeat, Sampling: api.Nearest, Transform: id, Image: api.Image{Width: 1, Height: 1, Pixels: []api.Pixel{{}}}}}
	return api.Scene{Width: 4, Height: 5, Background: api.Color{R: 255, G: 255, B: 255, A: 255}, Nodes: []api.Node{g, h, p, k, l}}
}

func TestP45_1Format(t *testing.T) {
	if s, e := Format(fullScene()); s != text(full...) || e != api.OK {
		t.Error("Format", s, e)
	}
	if s, e := Format(api.Scene{}); s != "" || e != api.ErrScene {
		t.Error("Format of an invalid scene", s, e)
	}
	large := api.Scene{Width: 4, Height: 4, Nodes: []api.Node{node.Default(1, api.ImageNode)}}
	image := func(w, h int) {
		large.Nodes[0].Image = api.Image{Width: w, Height: h, Pixels: make([]api.Pixel, w*h)}
	}
	image(1000, 2)
	s, _ := Format(large)
	image(1000+(api.MaxTextBytes-len(s)-1)/16, 2) // 16 bytes a column; the rest are digits of the transform
	s, _ = Format(large)
	digits := 1
	for range api.MaxTextBytes - len(s) {
		digits *= 10
	}
	large.Nodes[0].Transform.E = rational.FromInt(digits)
	if s, e := Format(large); e != api.OK || len(s) != api.MaxTextBytes {
		t.Error("a text at the limit", len(s), e)
	} else if again, _, e := Parse(s); e != api.OK || !scene.Equal(again, large) {
		t.Error("parsing a text at the limit", e)
	}
	large.Nodes[0].Transform.E = rational.FromInt(10 * digits)
	if s, e := Format(large); s != "" || e != api.ErrLimit {
		t.Error("a text one byte beyond the limit", len(s), e)
	}
	image(90, 90)
	if s, e := Format(large); e != api.OK || len(s) > api.MaxTextBytes {
		t.Error("a text below the limit", len(s), e)
	}
	image(91, 91)
	if s, e := Format(large); s != "" || e != api.ErrLimit {
		t.Error("a text beyond the limit", len(s), e)
	}
}

func TestP45_2Parse(t *testing.T) {
	if s, i, e := Parse(text(full...)); i != 0 || e != api.OK || !scene.Equal(s, fullScene()) {
		t.Error("Parse", i, e)
	}
	if s, i, e := Parse("scene 4 4 #ffffffff\n"); i != 0 || e != api.OK || s.Width != 4 || len(s.Nodes) != 0 {
		t.Error("the chapter's example", s, i, e)
	}
	for s, want := range map[string]api.Errno{strings.Repeat("x", 65537): api.ErrLimit, strings.Repeat("\n", 65537): api.ErrLimit, strings.Repeat("x", 65536): api.ErrSyntax, "": api.ErrSyntax, "scene 4 4 #ffffffff": api.ErrSyntax, "\n": api.ErrSyntax} {
		if got, i, e := Parse(s); i != 0 || e != want || !reflect.DeepEqual(got, api.Scene{}) {
			t.Errorf("Parse(%.10q) = %v, %v", s, i, e)
		}
	}
	const many = "99999999999999999999"
	long := strings.Repeat("1", 1001)
	end := len(full)
	for _, c := range []struct {
		line   int // the line that is replaced
		by     string
		at     int
		e      api.Errno
		remark string
	}{
		{0, "scene 4 5", 0, api.ErrSyntax, "too few fields"}, {0, "scene 4 5 #ffffffff 1", 0, api.ErrSyntax, "too many fields"}, {0, "scene 4 05 #ffffffff", 0, api.ErrSyntax, "a number"}, {0, "scene 4 5 #fffffff", 0, api.ErrSyntax, "a color"}, {0, "page 4 5 #ffffffff", 0, api.ErrSyntax, "no scene"}, {0, "scene  4 5 #ffffffff", 0, api.ErrSyntax, "two blanks"},
		{0, "scene 0 5 #ffffffff", end, api.ErrScene, "an invalid size"}, {0, "scene 9999 5 #ffffffff", end, api.ErrScene, "a large page is no large image"}, {0, "scene " + many + " 5 #ffffffff", 0, api.ErrRange, "a number out of range"}, {0, "scene " + long + " 5 #ffffffff", 0, api.ErrSyntax, "a number beyond the limit"},
		{1, "scene 4 5 #ffffffff", 1, api.ErrSyntax, "a second scene line"}, {1, "", 1, api.ErrSyntax, "an empty line"}, {1, "transform 1 0 0 1 0 0", 1, api.ErrSyntax, "a transform out of place"}, {1, "fill solid #00000000", 1, api.ErrSyntax, "a fill out of place"}, {1, "Group 1 0 255 hue 1 0", 1, api.ErrSyntax, "an unknown word"},
		{1, "group 1 0 256 hue 1 0", 1, api.ErrRange, "the opacity"}, {1, "group 1 0 -1 hue 1 0", 1, api.ErrRange, "the opacity"}, {1, "group 1 0 255 gray 1 0", 1, api.ErrSyntax, "the mode"}, {1, "group 1 0 255 hue 2 0", 1, api.ErrSyntax, "isolated"}, {1, "group 1 0 255 hue 1 -1", 1, api.ErrSyntax, "knockout"}, {1, "group 1 0 255 hue 1 0 0", 1, api.ErrSyntax, "too many fields"}, {1, "group 1 0 255 hue 1", 1, api.ErrSyntax, "too few fields"}, {1, "group 1 0 255 * 1 0", 1, api.ErrSyntax, "an empty field"},
		{1, "group " + many + " 0 255 hue 1 0", 1, api.ErrRange, "the identifier"}, {1, "group 0 0 255 hue 1 0", end, api.ErrScene, "an invalid identifier"}, {1, "group 2 0 255 hue 1 0", end, api.ErrScene, "the same identifier"}, {1, "group 1 1 255 hue 1 0", end, api.ErrScene, "an invalid depth"},
		{2, "transform 1 0 0 1 2/4 7", 2, api.ErrSyntax, "a number that is not reduced"}, {2, "transform 1 0 0 1 7", 2, api.ErrSyntax, "five numbers"}, {2, "transform 1 0 0 1 7 7 7", 2, api.ErrSyntax, "seven numbers"}, {2, "transform 0 0 0 1 0 0", end, api.ErrScene, "a singular transform"}, {2, "transform 1 0 0 1 " + long + " 0", 2, api.ErrSyntax, "a long number"}, {2, "clip evenodd *", 2, api.ErrSyntax, "no transform"},
		{3, "clip evenodd *", end, api.ErrScene, "an empty clip"}, {3, "clip odd M*200*200", 3, api.ErrSyntax, "the rule"}, {3, "clip evenodd L*200*200", 3, api.ErrSyntax, "a path that is not valid"}, {3, "clip evenodd M*200*201048577", 3, api.ErrRange, "a point out of range"}, {3, "clip evenodd M*200*20" + many, 3, api.ErrRange, "a coordinate out of range"}, {3, "clip evenodd M*200*2001", 3, api.ErrSyntax, "a malformed path"}, {3, "clip evenodd M*200*200 1", 3, api.ErrSyntax, "too many fields"}, {3, "clip evenodd M*200*200\nclip evenodd M*200*200", 4, api.ErrSyntax, "two clips"}, {3, "fill solid #00000000", 3, api.ErrSyntax, "a fill of a group"},
		{4, "shape 2 1 evenodd", 4, api.ErrSyntax, "no path"}, {4, "shape 2 1 none *", 4, api.ErrSyntax, "the rule"}, {4, "shape 2 1 nonzero M*200*20-9999999", 4, api.ErrRange, "a point out of range"}, {4, "circle 2 1 nonzero *", 4, api.ErrSyntax, "an unknown node"},
		{6, "fill solid", 6, api.ErrSyntax, "no color"}, {6, "fill solid #00000000 #00000000", 6, api.ErrSyntax, "two colors"}, {6, "fill gold #00000000", 6, api.ErrSyntax, "an unknown paint"}, {6, "fill linear 0 0 1 pad 1 0 0 1 0 0 0 #00000000", 6, api.ErrSyntax, "three coordinates"}, {6, "fill linear 0 0 1 0 none 1 0 0 1 0 0 0 #00000000", end, api.ErrScene, "the spread none"}, {6, "fill linear 0 0 1 0 wide 1 0 0 1 0 0 0 #00000000", 6, api.ErrSyntax, "an unknown spread"},
		{6, "fill linear 0 0 1 0 pad 1 0 0 1 0 0", end, api.ErrScene, "no stops"}, {6, "fill linear 0 0 1 0 pad 1 0 0 1 0 0" + strings.Repeat(" 0 #00000000", 17), end, api.ErrScene, "17 stops"}, {6, "fill linear 0 0 1 0 pad 1 0 0 1 0 0 0", 6, api.ErrSyntax, "half a stop"}, {6, "fill linear 0 0 1 0 pad 1 0 0 1 0 0 0 0", 6, api.ErrSyntax, "a stop without a color"}, {6, "fill linear 0 0 " + many + " 0 pad 1 0 0 1 0 0 0 #00000000", 6, api.ErrRange, "a coordinate out of range"},
		{6, "fill solid #00000000\nfill solid #00000000", 7, api.ErrSyntax, "two fills"}, {6, "stroke 2 bevel square 65536 0 0 solid #00000000", 7, api.ErrSyntax, "two strokes"}, {7, "stroke 2 bevel square 65536 0 0 solid #00000000\nfill solid #00000000", 8, api.ErrSyntax, "a fill behind the stroke"},
		{7, "stroke 256 round butt 1024 5 2 10 solid #01020304", 7, api.ErrSyntax, "a dash that is missing"}, {7, "stroke 256 round butt 1024 5 -1 solid #01020304", 7, api.ErrSyntax, "a negative count"}, {7, "stroke 256 round butt 1024 5 3 solid #01020304", 7, api.ErrSyntax, "a count beyond the fields"}, {7, "stroke 256 round butt 1024 5 " + many + " solid #01020304", 7, api.ErrSyntax, "a count out of range"}, {7, "stroke 256 round butt 1024 5 1 7 solid #01020304", end, api.ErrScene, "an odd dash"}, {7, "stroke 256 butt butt 1024 5 0 solid #01020304", 7, api.ErrSyntax, "the join"}, {7, "stroke 256 round miter 1024 5 0 solid #01020304", 7, api.ErrSyntax, "the cap"}, {7, "stroke 256 round butt 1024 5 0", 7, api.ErrSyntax, "no paint"}, {7, "stroke 0 round butt 1024 5 0 solid #01020304", end, api.ErrScene, "a width of 0"}, {7, "stroke " + many + " round butt 1024 5 0 solid #01020304", 7, api.ErrRange, "a width out of range"}, {7, "stroke 256 round butt 1024 5 2 10 " + many + " solid #01020304", 7, api.ErrRange, "a dash out of range"},
		{8, "image 3 0 nearest 2 1 000000ff0102030", 8, api.ErrSyntax, "half a byte"}, {8, "image 3 0 nearest 2 1 000000ff010203", 8, api.ErrSyntax, "three quarters of a pixel"}, {8, "image 3 0 nearest 2 1 000000ff", 8, api.ErrSyntax, "one pixel too few"}, {8, "image 3 0 nearest 2 1 000000FF01020304", 8, api.ErrSyntax, "upper case"}, {8, "image 3 0 nearest 0 1 000000ff", 8, api.ErrRange, "a width of 0"}, {8, "image 3 0 nearest 1 4097 000000ff", 8, api.ErrRange, "a great height"}, {8, "image 3 0 nearest 257 256 000000ff", 8, api.ErrRange, "too many pixels"}, {8, "image 3 0 nearest 0 1 000000f", 8, api.ErrSyntax, "a malformed image out of range"}, {8, "image 3 0 nearest " + many + " 1 *", 8, api.ErrRange, "a width out of range"}, {8, "image 3 0 none 2 1 000000ff01020304", 8, api.ErrSyntax, "the sampling"}, {8, "image 3 0 nearest 2 1 000000ff05020304", end, api.ErrScene, "a pixel that is not valid"}, {8, "image 3 0 nearest 2 1", 8, api.ErrSyntax, "no pixels"},
		{10, "fill solid #00000000", 10, api.ErrSyntax, "a fill of an image"}, {10, "stroke 2 bevel square 65536 0 0 solid #00000000", 10, api.ErrSyntax, "a stroke of an image"},
		{13, "stroke 1 round round 256 0 0 pattern none bilinear 1 0 0 1 0 0 1 2 00000000", 13, api.ErrSyntax, "a pixel of a pattern is missing"}, {13, "stroke 1 round round 256 0 0 pattern none bilinear 1 0 0 1 0 0 0 2 00000000", 13, api.ErrRange, "a width of a pattern"}, {13, "stroke 1 round round 256 0 0 pattern pad linear 1 0 0 1 0 0 1 1 00000000", 13, api.ErrSyntax, "the sampling of a pattern"}, {13, "stroke 1 round round 256 0 0 pattern none bilinear 0 0 0 1 0 0 1 1 00000000", end, api.ErrScene, "a singular pattern"},
		{17, "stroke 2 bevel square 65536 0 0 solid #00000000\ngroup 9 0 255 hue 1 0", 19, api.ErrSyntax, "no transform at the end"}, {17, "stroke 2 bevel square 65536 0 0 solid #00000000\ngroup 9 0 999 hue 1 0", 19, api.ErrSyntax, "a syntax error comes before a range error"}, {17, "*zz", 17, api.ErrSyntax, "no word"},
	} {
		lines := slices.Clone(full)
		lines[c.line] = c.by
		if s, i, e := Parse(text(lines...)); i != c.at || e != c.e || !reflect.DeepEqual(s, api.Scene{}) {
			t.Errorf("%s (%.60q): line %d, error %d, want %d and %d", c.remark, c.by, i, e, c.at, c.e)
		}
	}
	two := slices.Clone(full)
	two[8], two[1] = "image 3 0 nearest 0 1 *", "group 1 0 256 hue 1 0"
	if _, i, e := Parse(text(two...)); i != 1 || e != api.ErrRange {
		t.Error("the first line with a value out of range", i, e)
	}
	two[17] = "fill"
	if _, i, e := Parse(text(two...)); i != 17 || e != api.ErrSyntax {
		t.Error("a malformed line comes before values out of range", i, e)
	}
	if _, i, e := Parse(text("scene 4 4 #ffffffff", "group 9 0 255 hue 1 0")); i != 2 || e != api.ErrSyntax {
		t.Error("no transform at the end", i, e)
	}
}

// TestLongImages: images with the greatest width and height.
func TestLongImages(t *testing.T) {
	s := api.Scene{Width: 4, Height: 4, Nodes: []api.Node{node.Default(1, api.ImageNode)}}
	for _, size := range [][2]int{{4096, 1}, {1, 4096}} {
		s.Nodes[0].Image = api.Image{Width: size[0], Height: size[1], Pixels: make([]api.Pixel, 4096)}
		formatted, e := Format(s)
		if e != api.OK {
			t.Fatal("Format", size, e)
		}
		if parsed, i, e := Parse(formatted); i != 0 || e != api.OK || !scene.Equal(parsed, s) {
			t.Error("Parse", size, i, e)
		}
		lines := strings.SplitAfter(formatted, "\n")
		lines[1] = strings.Replace(lines[1], "4096", "4095", 1)
		if _, i, e := Parse(strings.Join(lines, "")); i != 1 || e != api.ErrSyntax {
			t.Error("a pixel too much", size, i, e)
		}
	}
}

func TestP45_3Paints(t *testing.T) {
	for _, n := range fullScene().Nodes {
		for _, p := range append(n.Fill, n.Stroke...) {
			line, e := FormatPaint(p)
			if e != api.OK || !strings.Contains(text(full...), " "+line+"\n") && !strings.Contains(text(full...), line+"\n") {
				t.Error("FormatPaint", line, e)
			}
			q, e := ParsePaint(line)
			m := node.Default(1, api.ShapeNode)
			m.Fill = []api.Paint{p}
			o := node.Clone(m)
			o.Fill = []api.Paint{q}
			if e != api.OK || !node.Equal(m, o) {
				t.Error("ParsePaint", line, e)
			}
		}
	}
	if p, _ := ParsePaint("solid #01020304"); !reflect.DeepEqual(p, api.Paint{Kind: api.SolidPaint, Color: api.Color{R: 1, G: 2, B: 3, A: 4}}) {
		t.Error("a solid paint has the zero transform", p)
	}
	if s, e := FormatPaint(api.Paint{}); s != "" || e != api.ErrPaint {
		t.Error("FormatPaint of an invalid paint", s, e)
	}
	for _, line := range []string{"", "solid", "solid #01020304 ", "solid #01020304 1", "solid #01020304\n", "linear 0 0 1 0 none 1 0 0 1 0 0 0 #00000000", "linear 0 0 1 0 pad 1 0 0 1 0 0", "linear 0 0 1 0 pad 0 0 0 1 0 0 0 #00000000", "radial 0 0 0 pad 1 0 0 1 0 0 0 #00000000", "radial 0 0 99999999999999999999 pad 1 0 0 1 0 0 0 #00000000", "pattern pad nearest 1 0 0 1 0 0 1 1 *", "pattern pad nearest 1 0 0 1 0 0 1 1 01000000", "*", "linear 0 0 1 0 pad 1 0 0 1 0 0 0 #0000000z"} {
		if p, e := ParsePaint(line); e != api.ErrSyntax || !reflect.DeepEqual(p, api.Paint{}) {
			t.Errorf("ParsePaint(%q): %v", line, e)
		}
	}
}

func TestP45_4RoundTrips(t *testing.T) {
	r := rand.New(rand.NewSource(1))
	for k := range 300 {
		s := samples.Scene(r.Intn)
		formatted, e := Format(s)
		if e != api.OK {
			t.Fatal(e)
		}
		parsed, i, e := Parse(formatted)
		if i != 0 || e != api.OK || !scene.Equal(parsed, s) {
			t.Fatal("Parse of Format", i, e)
		}
		if k < 10 {
			a, _ := render.Page(s)
			b, _ := render.Page(parsed)
			if !reflect.DeepEqual(a, b) {
				t.Fatal("the rendering of a parsed scene")
			}
		}
		b := []byte(formatted)
		for range 1 + r.Intn(2) {
			b[r.Intn(len(b))] = "0123 /-*#M\nz"[r.Intn(12)]
		}
		if again, _, e := Parse(string(b)); e == api.OK {
			if same, e := Format(again); e != api.OK || same != string(b) {
				t.Fatalf("Format of Parse: %q", b)
			}
		}
	}
}
