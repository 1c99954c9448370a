package blend

import (
	"math"
	"math/big"
	"math/rand"
	"testing"

	"grisaille/api"
	"grisaille/color"
)

func px(r, g, b, a int) api.Pixel {
	return api.Pixel{R: uint8(r), G: uint8(g), B: uint8(b), A: uint8(a)}
}

var names = []string{"normal", "multiply", "screen", "overlay", "darken", "lighten", "difference", "exclusion", "hardlight", "hue", "saturation", "color", "luminosity"}

// term is the chapter's definition of the separable modes.
func term(mode, s, sa, d, da int) int {
	switch mode {
	case 1:
		return s * da
	case 2:
		return s * d
	case 3:
		return s*da + d*sa - s*d
	case 4:
		if 2*d <= da {
			return 2 * s * d
		}
		return sa*da - 2*(da-d)*(sa-s)
	case 5:
		return min(s*da, d*sa)
	case 6:
		return max(s*da, d*sa)
	case 7:
		if s*da > d*sa {
			return s*da - d*sa
		}
		return d*sa - s*da
	case 8:
		return s*da + d*sa - 2*s*d
	case 9:
		if 2*s <= sa {
			return 2 * s * d
		}
		return sa*da - 2*(da-d)*(sa-s)
	}
	return 0
}

func TestP28_1P28_3ModesAndTerm(t *testing.T) {
	for i, name := range names {
		mode := i + 1
		if !ValidMode(mode) || ModeName(mode) != name {
			t.Error("ModeName", mode, ModeName(mode))
		}
		if m, ok := ModeByName(name); m != mode || !ok {
			t.Error("ModeByName", name, m, ok)
		}
	}
	for _, mode := range []int{0, 14, -1, math.MinInt, math.MaxInt} {
		if ValidMode(mode) || ModeName(mode) != "" || Term(mode, 1, 2, 1, 2) != 0 {
			t.Error("an unknown mode", mode)
		}
	}
	for _, name := range []string{"", "Normal", "normal ", "hard-light"} {
		if m, ok := ModeByName(name); m != 0 || ok {
			t.Error("ModeByName", name, m, ok)
		}
	}
	r := rand.New(rand.NewSource(1))
	for range 50000 {
		sa, da := r.Intn(256), r.Intn(256)
		s, d := r.Intn(sa+1), r.Intn(da+1)
		mode := 1 + r.Intn(13)
		got := Term(mode, s, sa, d, da)
		if got != term(mode, s, sa, d, da) || got < 0 || got > sa*da {
			t.Fatal("Term", mode, s, sa, d, da, got)
		}
	}
	for mode := 1; mode <= 9; mode++ {
		for _, c := range [][4]int{{-1, 5, 3, 5}, {6, 5, 3, 5}, {3, 5, -1, 5}, {3, 5, 6, 5}, {3, 256, 3, 5}, {3, 5, 3, 256}, {-9, -5, 3, 5}, {math.MinInt, math.MaxInt, 1, 1}, {200, 256, 200, 255}} {
			if got := Term(mode, c[0], c[1], c[2], c[3]); got != 0 {
				t.Error("numbers that are not as defined", mode, c, got)
			}
		}
	}
}

func random(r *rand.Rand) api.Pixel {
	p := px(r.Intn(256), r.Intn(256), r.Intn(256), r.Intn(256))
	switch r.Intn(5) {
	case 0:
		p.G = p.R
	case 1:
		p.A = 255
	case 2:
		p.G, p.B = p.R, p.R
	}
	return p
}

func div(n, d int) int { return (2*n + d) / (2 * d) }

// slow is the chapter's definition of Blend for clamped pixels, with exact fractions.
func slow(mode int, s, d api.Pixel) api.Pixel {
	sa, da := int(s.A), int(d.A)
	S, D := [3]int{int(s.R), int(s.G), int(s.B)}, [3]int{int(d.R), int(d.G), int(d.B)}
	var out [3]int
	for i := range out {
		base := S[i]*(255-da) + D[i]*(255-sa)
		if mode <= 9 {
			out[i] = div(base+term(mode, S[i], sa, D[i], da), 255)
			continue
		}
		f := new(big.Rat).Add(big.NewRat(int64(base), 1), colorTerm(mode, S, sa, D, da, i))
		f.Mul(f, big.NewRat(1, 255)).Add(f, big.NewRat(1, 2))
		out[i] = int(new(big.Int).Div(f.Num(), f.Denom()).Int64())
	}
	return px(out[0], out[1], out[2], div(sa*(255-da)+da*(255-sa)+sa*da, 255))
}

func colorTerm(mode int, S [3]int, sa int, D [3]int, da int, i int) *big.Rat {
	for j := range S {
		S[j], D[j] = S[j]*da, D[j]*sa
	}
	a := sa * da
	lumOf := func(x [3]int) int { return 30*x[0] + 59*x[1] + 11*x[2] }
	satOf := func(x [3]int) int { return max(x[0], x[1], x[2]) - min(x[0], x[1], x[2]) }
	X, tt, L := S, satOf(D), lumOf(D)
	switch mode {
	case 11:
		X, tt = D, satOf(S)
	case 12:
		tt = satOf(S)
	case 13:
		X, L = D, lumOf(S)
	}
	lo, hi, x := min(X[0], X[1], X[2]), max(X[0], X[1], X[2]), X[i]
	m, k := satOf(X), lumOf(X)-100*lo
	rat := func(n, d int) *big.Rat { return big.NewRat(int64(n), int64(d)) }
	switch {
	case m == 0:
		return rat(L, 100)
	case L*m < tt*k:
		return rat(L*(x-lo), k)
	case 100*m*tt+L*m-tt*k > 100*a*m:
		return new(big.Rat).Sub(rat(a, 1), rat((100*a-L)*(hi-x), 100*hi-lumOf(X)))
	}
	return rat(100*(x-lo)*tt+L*m-tt*k, 100*m)
}

func TestP28_2P28_4Blend(t *testing.T) {
	if p := Blend(api.Multiply, px(128, 128, 128, 255), px(128, 128, 128, 255)); p != px(64, 64, 64, 255) {
		t.Error("the chapter's example", p)
	}
	r := rand.New(rand.NewSource(2))
	for range 60000 {
		s, d := random(r), random(r)
		mode := 1 + r.Intn(13)
		got := Blend(mode, s, d)
		if want := slow(mode, color.Clamp(s), color.Clamp(d)); got != want || !color.Valid(got) {
			t.Fatal("Blend", mode, s, d, got, want)
		}
	}
	for _, mode := range []int{0, 14, -1} {
		if p := Blend(mode, px(1, 2, 3, 4), px(9, 8, 7, 6)); p != px(9, 8, 7, 6) {
			t.Error("an invalid mode", mode, p)
		}
	}
}

func TestP28_3P28_5Consequences(t *testing.T) {
	r := rand.New(rand.NewSource(3))
	lumOf := func(p api.Pixel) int { return 30*int(p.R) + 59*int(p.G) + 11*int(p.B) }
	for range 20000 {
		s, d := random(r), random(r)
		for mode := 1; mode <= 13; mode++ {
			if Blend(mode, px(0, 0, 0, 0), d) != color.Clamp(d) || Blend(mode, s, px(0, 0, 0, 0)) != color.Clamp(s) {
				t.Fatal("a transparent pixel", mode, s, d)
			}
		}
		s.A, d.A = 255, 255
		for mode := 10; mode <= 13; mode++ {
			want := lumOf(d)
			if mode == 13 {
				want = lumOf(s)
			}
			if n := lumOf(Blend(mode, s, d)) - want; n < -50 || n > 50 {
				t.Fatal("the luminosity", mode, s, d, n)
			}
			if Blend(mode, s, s) != s {
				t.Fatal("a pixel with itself", mode, s)
			}
		}
	}
}
