package scenetext

import (
	"slices"

	"grisaille/api"
	"grisaille/blend"
	"grisaille/color"
	"grisaille/numtext"
	"grisaille/pathtext"
	"grisaille/quoting"
)

const maxImageSide = api.MaxPixelCoord

// malformed is what a parser panics with at a malformed line.
type malformed struct{}

// A parser reads lines field by field.
type parser struct {
	lines    []string
	at       int      // the index of the current line
	fields   []string // what is left of the current line
	outRange bool     // whether a value was out of range, and if so, in which line first
	rangeAt  int
}

func (p *parser) fail() {
	panic(malformed{})
}

// outOfRange records that the current line has a value out of range; malformed lines behind it come first all the same.
func (p *parser) outOfRange() {
	if !p.outRange {
		p.outRange, p.rangeAt = true, p.at
	}
}

// load splits the current line into its fields.
func (p *parser) load() {
	fields, _, e := quoting.SplitFields(p.lines[p.at])
	if e != api.OK {
		p.fail()
	}
	p.fields = fields
}

// next takes a field.
func (p *parser) next() string {
	if len(p.fields) == 0 {
		p.fail()
	}
	field := p.fields[0]
	p.fields = p.fields[1:]
	return field
}

// end requires that no field is left, and goes to the next line.
func (p *parser) end() {
	if len(p.fields) > 0 {
		p.fail()
	}
	p.at++
}

// starts reports whether there is a current line that starts with the word, and if so, takes it.
func (p *parser) starts(word string) bool {
	if p.at >= len(p.lines) {
		return false
	}
	p.load()
	return p.next() == word
}

func (p *parser) integer() int {
	n, e := numtext.ParseInt(p.next())
	switch e {
	case api.OK:
	case api.ErrRange:
		p.outOfRange()
	default:
		p.fail()
	}
	return n
}

// integerBetween reads an integer that is out of range unless it is from low to high.
func (p *parser) integerBetween(low, high int) int {
	n := p.integer()
	if n < low || n > high {
		p.outOfRange()
	}
	return n
}

// word reads one of the given words and returns its index.
func (p *parser) word(words []string) int {
	i := slices.Index(words, p.next())
	if i < 0 {
		p.fail()
	}
	return i
}

func (p *parser) boolean() bool {
	return p.word(boolWords()) == 1
}

func (p *parser) mode() int {
	mode, ok := blend.ModeByName(p.next())
	if !ok {
		p.fail()
	}
	return mode
}

func (p *parser) color() api.Color {
	c, e := color.Parse(p.next())
	if e != api.OK {
		p.fail()
	}
	return c
}

func (p *parser) transform() api.Affine {
	var f [6]api.Rat
	for i := range f {
		var e api.Errno
		if f[i], e = numtext.ParseRational(p.next()); e != api.OK {
			p.fail()
		}
	}
	return api.Affine{A: f[0], B: f[1], C: f[2], D: f[3], E: f[4], F: f[5]}
}

func (p *parser) path() []api.Segment {
	l, _, e := pathtext.Parse(p.next())
	switch e {
	case api.OK:
	case api.ErrRange:
		p.outOfRange()
	default:
		p.fail()
	}
	return l
}

// image reads the size and the pixels of an image.
func (p *parser) image() api.Image {
	w, h := p.integer(), p.integer()
	sized := w >= 1 && w <= maxImageSide && h >= 1 && h <= maxImageSide && w*h <= api.MaxPixels
	if !sized {
		p.outOfRange()
	}
	b, e := numtext.DecodeHex(p.next())
	if e != api.OK || len(b)%4 != 0 || sized && len(b) != 4*w*h {
		p.fail()
	}
	m := api.Image{Width: w, Height: h}
	for i := 0; i < len(b); i += 4 {
		m.Pixels = append(m.Pixels, api.Pixel{R: b[i], G: b[i+1], B: b[i+2], A: b[i+3]})
	}
	return m
}

func (p *parser) point() api.Point {
	x := p.integer()
	return api.Point{X: x, Y: p.integer()}
}

// paint reads a paint, which takes all fields that are left.
func (p *parser) paint() api.Paint {
	out := api.Paint{Kind: firstPaint + p.word(paintWords())}
	switch out.Kind {
	case api.SolidPaint:
		out.Color = p.color()
		return out
	case api.PatternPaint:
		out.Spread = firstSpread + p.word(spreadWords())
		out.Sampling = firstSampling + p.word(samplingWords())
		out.Transform = p.transform()
		out.Image = p.image()
		return out
	case api.LinearGradient:
		out.P0, out.P1 = p.point(), p.point()
	case api.RadialGradient:
		out.P0, out.Radius = p.point(), p.integer()
	}
	out.Spread = firstSpread + p.word(spreadWords())
	out.Transform = p.transform()
	for len(p.fields) > 0 {
		offset := p.integer()
		out.Stops = append(out.Stops, api.ColorStop{Offset: offset, Color: p.color()})
	}
	return out
}

// style reads a stroke style, up to its dash array.
func (p *parser) style() api.StrokeStyle {
	style := api.StrokeStyle{Width: p.integer()}
	style.Join = firstJoin + p.word(joinWords())
	style.Cap = firstCap + p.word(capWords())
	style.MiterLimit, style.DashPhase = p.integer(), p.integer()
	count, e := numtext.ParseInt(p.next())
	if e != api.OK || count < 0 || count > len(p.fields) {
		p.fail()
	}
	for range count {
		style.Dash = append(style.Dash, p.integer())
	}
	return style
}

// head reads the first line of a node.
func (p *parser) head() api.Node {
	p.load()
	var n api.Node
	kind := p.next()
	switch kind {
	case "group", "shape", "image":
		n.ID, n.Depth = p.integer(), p.integer()
	default:
		p.fail()
	}
	switch kind {
	case "group":
		n.Kind = api.GroupNode
		n.Opacity = uint8(p.integerBetween(0, 255))
		n.Blend = p.mode()
		n.Isolated, n.Knockout = p.boolean(), p.boolean()
	case "shape":
		n.Kind = api.ShapeNode
		n.FillRule = firstRule + p.word(ruleWords())
		n.Path = p.path()
	case "image":
		n.Kind = api.ImageNode
		n.Sampling = firstSampling + p.word(samplingWords())
		n.Image = p.image()
	}
	p.end()
	return n
}

// node reads all lines of a node.
func (p *parser) node() api.Node {
	n := p.head()
	if !p.starts("transform") {
		p.fail()
	}
	n.Transform = p.transform()
	p.end()
	if p.starts("clip") {
		n.ClipRule = firstRule + p.word(ruleWords())
		n.Clip = p.path()
		p.end()
	}
	if n.Kind == api.ShapeNode && p.starts("fill") {
		n.Fill = []api.Paint{p.paint()}
		p.end()
	}
	if n.Kind == api.ShapeNode && p.starts("stroke") {
		n.Style = p.style()
		n.Stroke = []api.Paint{p.paint()}
		p.end()
	}
	return n
}

// scene reads all lines.
func (p *parser) scene() api.Scene {
	if !p.starts("scene") {
		p.fail()
	}
	s := api.Scene{Width: p.integer(), Height: p.integer()}
	s.Background = p.color()
	p.end()
	for p.at < len(p.lines) {
		s.Nodes = append(s.Nodes, p.node())
	}
	return s
}

// attempt runs a step of the parser and reports whether it met no malformed line.
func attempt(step func()) (ok bool) {
	defer func() {
		if fault := recover(); fault != nil {
			if _, expected := fault.(malformed); !expected {
				panic(fault)
			}
			ok = false
		}
	}()
	step()
	return true
}

// Parse returns the scene whose Format is text, or the index of the line that is to blame.
func Parse(text string) (api.Scene, int, api.Errno) {
	if len(text) > api.MaxTextBytes {
		return api.Scene{}, 0, api.ErrLimit
	}
	lines, e := quoting.SplitLines(text)
	if e != api.OK || len(lines) == 0 {
		return api.Scene{}, 0, api.ErrSyntax
	}
	p := &parser{lines: lines}
	var s api.Scene
	if !attempt(func() { s = p.scene() }) {
		return api.Scene{}, p.at, api.ErrSyntax
	}
	if p.outRange {
		return api.Scene{}, p.rangeAt, api.ErrRange
	}
	if again, e := Format(s); e != api.OK || again != text {
		return api.Scene{}, len(lines), api.ErrScene
	}
	return s, 0, api.OK
}

// ParsePaint returns the valid paint whose FormatPaint is line.
func ParsePaint(line string) (api.Paint, api.Errno) {
	p := &parser{lines: []string{line}}
	var out api.Paint
	ok := attempt(func() {
		p.load()
		out = p.paint()
		p.end()
	})
	if !ok || p.outRange {
		return api.Paint{}, api.ErrSyntax
	}
	if again, e := FormatPaint(out); e != api.OK || again != line {
		return api.Paint{}, api.ErrSyntax
	}
	return out, api.OK
}
