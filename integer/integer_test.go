package integer

import (
	"math"
	"math/big"
	"math/rand"
	"slices"
	"strings"
	"testing"

	"grisaille/api"
)

func toBig(a api.Int) *big.Int {
	n := new(big.Int)
	for i := len(a.Mag) - 1; i >= 0; i-- {
		n.Lsh(n, 32).Or(n, big.NewInt(int64(a.Mag[i])))
	}
	if a.Neg {
		n.Neg(n)
	}
	return n
}

// random returns an integer that need not be normalized.
func random(r *rand.Rand, most int) api.Int {
	mag := make([]uint32, r.Intn(most+1))
	for i := range mag {
		mag[i] = []uint32{0, 1, 2, math.MaxUint32, r.Uint32()}[r.Intn(5)]
	}
	return api.Int{Neg: r.Intn(2) == 0, Mag: mag}
}

func check(t *testing.T, what string, got api.Int, want *big.Int) {
	t.Helper()
	if !IsNormalized(got) || toBig(got).Cmp(want) != 0 {
		t.Fatalf("%s: got %v, want %v", what, got, want)
	}
}

var ints = []int{0, 1, -1, 2, -2, 3, -7, 1<<32 - 1, 1 << 32, -1 << 32, math.MaxInt, math.MinInt, math.MinInt + 1}

func TestP2_1Basics(t *testing.T) {
	for _, n := range ints {
		a := FromInt(n)
		check(t, "FromInt", a, big.NewInt(int64(n)))
		if m, ok := ToInt(a); m != n || !ok {
			t.Error("ToInt", n, m, ok)
		}
	}
	for _, s := range []string{"9223372036854775808", "-9223372036854775809", "18446744073709551616", "-18446744073709551616", "340282366920938463463374607431768211456"} {
		a, _ := Parse(s)
		if m, ok := ToInt(a); m != 0 || ok {
			t.Error("ToInt", s, m, ok)
		}
	}
	if m, ok := ToInt(api.Int{Neg: true, Mag: []uint32{5, 0, 0, 0}}); m != -5 || !ok {
		t.Error("ToInt of a value that is not normalized:", m, ok)
	}
	for _, c := range []struct {
		a    api.Int
		want bool
	}{
		{api.Int{}, true}, {api.Int{Neg: true}, false}, {api.Int{Neg: true, Mag: []uint32{1}}, true},
		{api.Int{Mag: []uint32{1, 0}}, false}, {api.Int{Mag: []uint32{0}}, false},
	} {
		if IsNormalized(c.a) != c.want {
			t.Error("IsNormalized", c.a)
		}
	}
	mag := []uint32{4, 0}
	a := New(true, mag)
	check(t, "New", a, big.NewInt(-4))
	if a.Mag[0] = 9; mag[0] != 4 {
		t.Error("New shares memory with its argument")
	}
	check(t, "New of a negative zero", New(true, []uint32{0, 0}), new(big.Int))
	r := rand.New(rand.NewSource(1))
	for range 5000 {
		a, b := random(r, 3), random(r, 3)
		if r.Intn(3) == 0 {
			b = api.Int{Neg: r.Intn(2) == 0, Mag: append(slices.Clone(a.Mag), 0)}
		}
		if Sign(a) != toBig(a).Sign() || Cmp(a, b) != toBig(a).Cmp(toBig(b)) || BitLen(a) != toBig(a).BitLen() {
			t.Fatal("Sign, Cmp or BitLen", a, b)
		}
	}
}

// divMod and divRound are the oracles of division.
func divMod(x, y *big.Int) (*big.Int, *big.Int) {
	q, m := new(big.Int).DivMod(x, y, new(big.Int)) // the remainder is never negative
	if m.Sign() != 0 && y.Sign() < 0 {
		q.Sub(q, big.NewInt(1))
		m.Add(m, y)
	}
	return q, m
}

func divRound(x, y *big.Int) *big.Int {
	n, d := new(big.Int).Abs(x), new(big.Int).Abs(y)
	n.Lsh(n, 1).Add(n, d).Quo(n, d.Lsh(d, 1))
	if x.Sign()*y.Sign() < 0 {
		n.Neg(n)
	}
	return n
}

func TestP2_2Arithmetic(t *testing.T) {
	r := rand.New(rand.NewSource(2))
	for range 20000 {
		a, b := random(r, 4), random(r, 3)
		x, y := toBig(a), toBig(b)
		before := append(slices.Clone(a.Mag), b.Mag...)
		check(t, "Neg", Neg(a), new(big.Int).Neg(x))
		check(t, "Add", Add(a, b), new(big.Int).Add(x, y))
		check(t, "Sub", Sub(a, b), new(big.Int).Sub(x, y))
		check(t, "Mul", Mul(a, b), new(big.Int).Mul(x, y))
		q, m, e := DivMod(a, b)
		d, f := DivRound(a, b)
		if y.Sign() == 0 {
			if e != api.ErrDivideByZero || f != e || q.Neg || m.Neg || d.Neg || len(q.Mag)+len(m.Mag)+len(d.Mag) != 0 {
				t.Fatal("division by zero", q, m, e, d, f)
			}
			continue
		}
		wantQ, wantM := divMod(x, y)
		check(t, "quotient", q, wantQ)
		check(t, "remainder", m, wantM)
		check(t, "DivRound", d, divRound(x, y))
		if !slices.Equal(before, append(slices.Clone(a.Mag), b.Mag...)) {
			t.Fatal("an argument was modified")
		}
	}
	for _, c := range [][5]int{{-7, 2, -4, 1, -4}, {7, -2, -4, -1, -4}, {5, 2, 2, 1, 3}, {-5, 2, -3, 1, -3}, {-5, -2, 2, -1, 3}, {4, 3, 1, 1, 1}, {-4, 3, -2, 2, -1}, {6, 3, 2, 0, 2}} {
		q, m, _ := DivMod(FromInt(c[0]), FromInt(c[1]))
		d, _ := DivRound(FromInt(c[0]), FromInt(c[1]))
		check(t, "quotient", q, big.NewInt(int64(c[2])))
		check(t, "remainder", m, big.NewInt(int64(c[3])))
		check(t, "DivRound", d, big.NewInt(int64(c[4])))
	}
}

func TestP2_3Text(t *testing.T) {
	r := rand.New(rand.NewSource(3))
	for range 2000 {
		a := random(r, 4)
		want := toBig(a).String()
		if Format(a) != want {
			t.Fatal("Format", a)
		}
		b, e := Parse(want)
		if e != api.OK {
			t.Fatal("Parse", want, e)
		}
		check(t, "Parse", b, toBig(a))
	}
	long := strings.Repeat("9", 1000)
	for s, want := range map[string]api.Errno{
		"": api.ErrSyntax, "-": api.ErrSyntax, "-0": api.ErrSyntax, "-00": api.ErrSyntax, "--1": api.ErrSyntax, "+1": api.ErrSyntax, "01": api.ErrSyntax, "-01": api.ErrSyntax,
		"1-": api.ErrSyntax, "0": api.OK, "-1": api.OK, long: api.OK, "-" + long: api.OK, long + "9": api.ErrLimit, "-" + long + "9": api.ErrLimit,
	} {
		if n, e := Parse(s); e != want || e != api.OK && (n.Neg || len(n.Mag) > 0) {
			t.Errorf("Parse(%.10q) = %v, %v", s, n, e)
		}
	}
}

func TestP2_4Consequences(t *testing.T) {
	r := rand.New(rand.NewSource(4))
	for range 3000 {
		a, b := random(r, 4), random(r, 3)
		if Sign(b) == 0 {
			continue
		}
		q, m, _ := DivMod(a, b)
		if Cmp(Add(Mul(q, b), m), a) != 0 || Sign(m) != 0 && Sign(m) != Sign(b) || Cmp(New(false, m.Mag), New(false, b.Mag)) >= 0 {
			t.Fatal("remainder", a, b, m)
		}
		d, _ := DivRound(a, b)
		e, _ := DivRound(Neg(a), Neg(b))
		if Cmp(d, e) != 0 {
			t.Fatal("DivRound of negated numbers", a, b)
		}
	}
}
