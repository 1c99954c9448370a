package gradientpos

import (
	"math"
	"math/big"
	"math/rand"
	"testing"

	"grisaille/api"
	"grisaille/integer"
	"grisaille/rational"
)

const (
	most = api.MaxCoord
	far  = 1 << 40
)

func pt(x, y int) api.Point { return api.Point{X: x, Y: y} }

func rat(n, d int) api.Rat {
	return api.Rat{Num: integer.FromInt(n), Den: integer.FromInt(d)} // not normalized
}

// huge returns 2^200 or its negative.
func huge(neg bool) api.Rat {
	return api.Rat{Num: integer.New(neg, []uint32{0, 0, 0, 0, 0, 0, 256}), Den: integer.FromInt(1)}
}

func clamp(n *big.Int) int {
	if n.CmpAbs(big.NewInt(far)) > 0 {
		return far * n.Sign()
	}
	return int(n.Int64())
}

func floor(f *big.Rat) *big.Int { return new(big.Int).Div(f.Num(), f.Denom()) }

func TestP32_1Linear(t *testing.T) {
	if n := LinearPos(pt(0, 0), pt(4, 0), rat(1, 1), rat(7, 1)); n != 16384 {
		t.Error("the chapter's example", n)
	}
	r := rand.New(rand.NewSource(1))
	for range 5000 {
		a, b := pt(r.Intn(99)-50, r.Intn(99)-50), pt(r.Intn(99)-50, r.Intn(99)-50)
		if r.Intn(4) == 0 {
			a, b = pt(most, -most), pt(-most+r.Intn(9), most)
		}
		xn, xd, yn, yd := r.Intn(2000)-1000, 1+r.Intn(9), r.Intn(2000)-1000, 1+r.Intn(9)
		if a == b {
			continue
		}
		wx, wy := int64(b.X-a.X), int64(b.Y-a.Y)
		px := new(big.Rat).Sub(big.NewRat(int64(xn), int64(xd)), big.NewRat(int64(a.X), 1))
		py := new(big.Rat).Sub(big.NewRat(int64(yn), int64(yd)), big.NewRat(int64(a.Y), 1))
		f := px.Mul(px, big.NewRat(wx, 1))
		f.Add(f, py.Mul(py, big.NewRat(wy, 1))).Mul(f, big.NewRat(65536, wx*wx+wy*wy))
		if got := LinearPos(a, b, rat(xn, xd), rat(yn, yd)); got != clamp(floor(f)) {
			t.Fatal("LinearPos", a, b, xn, xd, yn, yd, got)
		}
	}
	for _, c := range []struct {
		a, b api.Point
		x    api.Rat
		want int
	}{{pt(3, 3), pt(3, 3), rat(0, 1), 65536}, {pt(most+1, 0), pt(0, 0), rat(0, 1), 65536}, {pt(0, 0), pt(0, most+1), rat(0, 1), 65536}, {pt(0, 0), pt(1, 0), huge(false), far}, {pt(0, 0), pt(1, 0), huge(true), -far}, {pt(0, 0), pt(1, 0), rat(1<<24, 1), far}, {pt(0, 0), pt(1, 0), rat(1<<24+1, 1), far}, {pt(0, 0), pt(1, 0), rat(-1<<24, 1), -far}, {pt(0, 0), pt(1, 0), rat(1<<24-1, 1), far - 65536}, {pt(0, 0), pt(1, 0), rat(-1, 65537), -1}, {pt(2, 0), pt(4, 0), api.Rat{}, -65536}} {
		if got := LinearPos(c.a, c.b, c.x, rat(0, 1)); got != c.want {
			t.Error("LinearPos", c, got)
		}
	}
}

func TestP32_2Radial(t *testing.T) {
	if n := RadialPos(pt(0, 0), 5, rat(3, 1), rat(4, 1)); n != 65536 {
		t.Error("the chapter's example", n)
	}
	r := rand.New(rand.NewSource(2))
	for range 5000 {
		c, radius := pt(r.Intn(99)-50, r.Intn(99)-50), 1+r.Intn(300)
		if r.Intn(4) == 0 {
			c, radius = pt(most, -most), most-r.Intn(5)
		}
		xn, xd, yn, yd := r.Intn(2000)-1000, 1+r.Intn(9), r.Intn(2000)-1000, 1+r.Intn(9)
		px := new(big.Rat).Sub(big.NewRat(int64(xn), int64(xd)), big.NewRat(int64(c.X), 1))
		py := new(big.Rat).Sub(big.NewRat(int64(yn), int64(yd)), big.NewRat(int64(c.Y), 1))
		f := px.Mul(px, px)
		f.Add(f, py.Mul(py, py)).Mul(f, big.NewRat(1<<32, int64(radius*radius)))
		if got := RadialPos(c, radius, rat(xn, xd), rat(yn, yd)); got != clamp(new(big.Int).Sqrt(floor(f))) {
			t.Fatal("RadialPos", c, radius, xn, xd, yn, yd, got)
		}
	}
	for _, c := range []struct {
		c      api.Point
		radius int
		x      api.Rat
		want   int
	}{{pt(0, 0), 0, rat(0, 1), 65536}, {pt(0, 0), most + 1, rat(0, 1), 65536}, {pt(0, 0), math.MinInt, rat(0, 1), 65536}, {pt(0, most+1), 5, rat(0, 1), 65536}, {pt(0, 0), most, huge(true), far}, {pt(0, 0), 1, rat(1<<24+5, 1), far}, {pt(7, 0), 9, rat(7, 1), 0}} {
		if got := RadialPos(c.c, c.radius, c.x, rat(0, 1)); got != c.want {
			t.Error("RadialPos", c, got)
		}
	}
	for _, c := range []struct {
		n    api.Int
		want int
	}{{integer.FromInt(5), 5}, {integer.FromInt(-far), -far}, {integer.FromInt(far + 1), far}, {integer.FromInt(-far - 1), -far}, {integer.FromInt(math.MinInt), -far}, {huge(false).Num, far}, {huge(true).Num, -far}, {api.Int{Neg: true, Mag: []uint32{0, 0}}, 0}} {
		if got := ClampPos(c.n); got != c.want {
			t.Error("ClampPos", c, got)
		}
	}
}

func TestP32_3Consequences(t *testing.T) {
	r := rand.New(rand.NewSource(3))
	for range 2000 {
		a, b := pt(r.Intn(2*most)-most, r.Intn(2*most)-most), pt(r.Intn(99), r.Intn(99))
		if LinearPos(a, b, rational.FromInt(a.X), rational.FromInt(a.Y)) != 0 || LinearPos(a, b, rational.FromInt(b.X), rational.FromInt(b.Y)) != 65536 {
			t.Fatal("the ends", a, b)
		}
		if RadialPos(a, 1+r.Intn(most), rational.FromInt(a.X), rational.FromInt(a.Y)) != 0 {
			t.Fatal("the center", a)
		}
		x, y := rat(r.Intn(999), 7), rat(r.Intn(999), 5)
		step := rat(r.Intn(99), 1+r.Intn(99999))
		further := LinearPos(a, b, rational.Add(x, rational.Mul(step, rational.FromInt(b.X-a.X))), rational.Add(y, rational.Mul(step, rational.FromInt(b.Y-a.Y))))
		if further < LinearPos(a, b, x, y) {
			t.Fatal("a decrease along the gradient", a, b, x, y)
		}
	}
}
