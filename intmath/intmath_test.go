package intmath

import (
	"math"
	"math/big"
	"math/rand"
	"testing"
)

var edges = []int{0, 1, -1, 2, -2, 3, -3, 5, 127, 255, 256, 1 << 31, 1 << 32, 1<<62 - 1, 1 << 62, math.MaxInt - 1, math.MaxInt, math.MinInt, math.MinInt + 1}

// some returns an int that is often at an edge.
func some(r *rand.Rand) int {
	if r.Intn(2) == 0 {
		return edges[r.Intn(len(edges))]
	}
	return int(r.Uint64()) >> r.Intn(64)
}

// mulDiv is the oracle of MulDivRound.
func mulDiv(a, b, c int) (int, bool) {
	if c == 0 {
		return 0, false
	}
	n := new(big.Int).Mul(big.NewInt(int64(a)), big.NewInt(int64(b)))
	d := big.NewInt(int64(c))
	negative := n.Sign()*d.Sign() < 0
	n.Abs(n).Lsh(n, 1)
	d.Abs(d)
	n.Add(n, d).Quo(n, d.Lsh(d, 1))
	if negative {
		n.Neg(n)
	}
	if !n.IsInt64() {
		return 0, false
	}
	return int(n.Int64()), true
}

func TestP8_1Division(t *testing.T) {
	r := rand.New(rand.NewSource(1))
	for range 50000 {
		a, b, c := some(r), some(r), some(r)
		want, ok := mulDiv(a, b, c)
		if got, valid := MulDivRound(a, b, c); got != want || valid != ok {
			t.Fatal("MulDivRound", a, b, c, got, valid, want, ok)
		}
		want, _ = mulDiv(a, 1, c)
		if got := DivRound(a, c); got != want {
			t.Fatal("DivRound", a, c, got, want)
		}
	}
	for _, c := range [][3]int{{5, 2, 3}, {-5, 2, -3}, {5, -2, -3}, {-5, -2, 3}, {4, 3, 1}, {-4, 3, -1}, {7, 0, 0}, {math.MinInt, -1, 0}, {math.MinInt, 1, math.MinInt}, {math.MaxInt, 2, 1 << 62}} {
		if got := DivRound(c[0], c[1]); got != c[2] {
			t.Error("DivRound", c, got)
		}
	}
}

func TestP8_1Sqrt(t *testing.T) {
	r := rand.New(rand.NewSource(2))
	check := func(n uint64) {
		t.Helper()
		want := new(big.Int).Sqrt(new(big.Int).SetUint64(n))
		if Sqrt(n) != want.Uint64() {
			t.Fatal("Sqrt", n, Sqrt(n))
		}
	}
	for n := range uint64(300) {
		check(n)
		check(math.MaxUint64 - n)
	}
	for range 20000 {
		root := r.Uint64() >> (32 + r.Intn(32))
		check(root * root)
		check(root*root - 1)
		check(r.Uint64() >> r.Intn(64))
	}
}

func TestP8_2Norm8(t *testing.T) {
	for a := range 256 {
		for b := range 256 {
			if want, _ := mulDiv(a, b, 255); int(MulNorm8(uint8(a), uint8(b))) != want {
				t.Fatal("MulNorm8", a, b)
			}
		}
	}
	for n := -300; n < 70000; n++ {
		want, _ := mulDiv(n, 1, 255)
		if int(DivNorm8(n)) != max(0, min(255, want)) {
			t.Fatal("DivNorm8", n, DivNorm8(n))
		}
	}
	if DivNorm8(math.MaxInt) != 255 || DivNorm8(math.MinInt) != 0 || MulNorm8(128, 255) != 128 || MulNorm8(128, 128) != 64 {
		t.Error("DivNorm8 or MulNorm8")
	}
}

func TestP8_2ClampAndMod(t *testing.T) {
	for _, c := range [][4]int{{5, 0, 9, 5}, {-1, 0, 9, 0}, {10, 0, 9, 9}, {0, 0, 0, 0}, {5, 9, 0, 9}, {9, 9, 0, 0}, {math.MaxInt, math.MinInt, math.MaxInt, math.MaxInt}} {
		if got := Clamp(c[0], c[1], c[2]); got != c[3] {
			t.Error("Clamp", c, got)
		}
	}
	r := rand.New(rand.NewSource(3))
	for range 5000 {
		a, b := some(r), some(r)
		want := 0
		if b > 0 {
			want = int(new(big.Int).Mod(big.NewInt(int64(a)), big.NewInt(int64(b))).Int64())
		}
		if got := Mod(a, b); got != want {
			t.Fatal("Mod", a, b, got)
		}
	}
	if Mod(-1, 3) != 2 || Mod(math.MinInt, math.MaxInt) != math.MaxInt-1 || Mod(5, 0) != 0 || Mod(5, -3) != 0 {
		t.Error("Mod")
	}
}

func TestP8_3MulNorm8(t *testing.T) {
	for a := range 256 {
		if MulNorm8(255, uint8(a)) != uint8(a) {
			t.Fatal("MulNorm8(255, a)", a)
		}
		for b := range 256 {
			m := MulNorm8(uint8(a), uint8(b))
			if m != MulNorm8(uint8(b), uint8(a)) || b > 0 && m < MulNorm8(uint8(a), uint8(b-1)) {
				t.Fatal("not commutative or decreasing", a, b)
			}
		}
	}
}
