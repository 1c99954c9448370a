package composite

import (
	"math"
	"math/rand"
	"testing"

	"grisaille/api"
	"grisaille/blend"
	"grisaille/color"
)

func px(r, g, b, a int) api.Pixel {
	return api.Pixel{R: uint8(r), G: uint8(g), B: uint8(b), A: uint8(a)}
}

func random(r *rand.Rand) api.Pixel { return px(r.Intn(256), r.Intn(256), r.Intn(256), r.Intn(256)) }

// table is the chapter's list of factors.
func table(op, sa, da int) (int, int) {
	switch op {
	case 1:
		return 0, 0
	case 2:
		return 255, 0
	case 3:
		return 255, 255 - sa
	case 4:
		return da, 0
	case 5:
		return 255 - da, 0
	case 6:
		return da, 255 - sa
	case 7:
		return 255 - da, 255 - sa
	case 8:
		return 255, 255
	case 9:
		return 0, sa
	case 10:
		return 0, 255 - sa
	}
	return 0, 255
}

func TestP29_1Operators(t *testing.T) {
	if p := Compose(api.Over, px(128, 0, 0, 128), px(0, 0, 255, 255)); p != px(128, 0, 127, 255) {
		t.Error("the chapter's example", p)
	}
	for op := -2; op < 14; op++ {
		if ValidOp(op) != (op >= 1 && op <= 10) {
			t.Error("ValidOp", op)
		}
	}
	if ValidOp(math.MaxInt) || ValidOp(math.MinInt) {
		t.Error("ValidOp")
	}
	r := rand.New(rand.NewSource(1))
	for range 20000 {
		op := r.Intn(13) - 1
		s, d := random(r), random(r)
		f, g := Factors(op, s.A, d.A)
		if wantF, wantG := table(op, int(s.A), int(d.A)); f != wantF || g != wantG {
			t.Fatal("Factors", op, s.A, d.A, f, g)
		}
		u, v := color.Clamp(s), color.Clamp(d)
		mix := func(a, b uint8) int { return min(255, (2*(int(a)*f+int(b)*g)+255)/510) }
		if got := Compose(op, s, d); got != px(mix(u.R, v.R), mix(u.G, v.G), mix(u.B, v.B), mix(u.A, v.A)) {
			t.Fatal("Compose", op, s, d, got)
		}
	}
}

func TestP29_2P29_3Blending(t *testing.T) {
	r := rand.New(rand.NewSource(2))
	for range 5000 {
		mode := r.Intn(15)
		s, d, q, k := random(r), random(r), random(r), uint8(r.Intn(256))
		got := BlendWithCoverage(mode, s, d, k)
		if got != blend.Blend(mode, color.Scale(s, k), d) {
			t.Fatal("BlendWithCoverage", mode, s, d, k)
		}
		if BlendAll(mode, d) != d || BlendAll(mode, d, s, q) != BlendWithCoverage(mode, q, BlendWithCoverage(mode, s, d, 255), 255) {
			t.Fatal("BlendAll", mode, d, s, q)
		}
		if op := r.Intn(13); !color.Valid(Compose(op, s, d)) {
			t.Fatal("Compose", op, s, d)
		}
		if blend.ValidMode(mode) && (!color.Valid(got) || BlendWithCoverage(mode, s, d, 0) != color.Clamp(d)) {
			t.Fatal("the result of a valid mode", mode, s, d, k)
		}
		if Compose(api.Over, s, d) != blend.Blend(api.Normal, s, d) {
			t.Fatal("Over and Normal", s, d)
		}
	}
}
