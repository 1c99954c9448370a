package rational

import (
	"math"
	"math/big"
	"math/rand"
	"reflect"
	"testing"

	"grisaille/api"
	"grisaille/integer"
)

func toBigInt(a api.Int) *big.Int {
	n := new(big.Int)
	for i := len(a.Mag) - 1; i >= 0; i-- {
		n.Lsh(n, 32).Or(n, big.NewInt(int64(a.Mag[i])))
	}
	if a.Neg {
		n.Neg(n)
	}
	return n
}

func toBig(f api.Rat) *big.Rat {
	if toBigInt(f.Den).Sign() == 0 {
		return new(big.Rat)
	}
	return new(big.Rat).SetFrac(toBigInt(f.Num), toBigInt(f.Den))
}

// random returns a number that need not be normalized.
func random(r *rand.Rand) api.Rat {
	part := func() api.Int {
		mag := make([]uint32, r.Intn(4))
		for i := range mag {
			mag[i] = []uint32{0, 1, 2, 6, math.MaxUint32, math.MaxInt32, r.Uint32()}[r.Intn(7)]
		}
		return api.Int{Neg: r.Intn(2) == 0, Mag: mag}
	}
	return api.Rat{Num: part(), Den: part()}
}

func check(t *testing.T, what string, got api.Rat, want *big.Rat) {
	t.Helper()
	g := toBig(got)
	if g.Cmp(want) != 0 || toBigInt(got.Num).Cmp(want.Num()) != 0 || toBigInt(got.Den).Cmp(want.Denom()) != 0 ||
		!integer.IsNormalized(got.Num) || !integer.IsNormalized(got.Den) {
		t.Fatalf("%s: got %v, want %v", what, got, want)
	}
}

func isZeroValue(f api.Rat) bool {
	return !f.Num.Neg && !f.Den.Neg && len(f.Num.Mag)+len(f.Den.Mag) == 0
}

func TestP3_1Construction(t *testing.T) {
	f, e := FromInts(6, -4)
	check(t, "FromInts(6, -4)", f, big.NewRat(-3, 2))
	if e != api.OK {
		t.Error(e)
	}
	f, _ = FromInts(math.MinInt, math.MinInt)
	check(t, "FromInts of the least ints", f, big.NewRat(1, 1))
	f, _ = FromInts(0, -5)
	check(t, "FromInts(0, -5)", f, new(big.Rat))
	check(t, "FromInt", FromInt(-7), big.NewRat(-7, 1))
	check(t, "FromInt(0)", FromInt(0), new(big.Rat))
	if f, e := FromInts(1, 0); e != api.ErrDivideByZero || !isZeroValue(f) {
		t.Error("FromInts(1, 0):", f, e)
	}
	if f, e := New(integer.FromInt(1), api.Int{Neg: true, Mag: []uint32{0, 0}}); e != api.ErrDivideByZero || !isZeroValue(f) {
		t.Error("New with denominator 0:", f, e)
	}
	r := rand.New(rand.NewSource(1))
	for range 5000 {
		f := random(r)
		want := toBig(f)
		check(t, "Normalize", Normalize(f), want)
		if n := max(want.Num().BitLen(), want.Denom().BitLen()); BitLen(f) != n {
			t.Fatal("BitLen", f, BitLen(f), n)
		}
		normal := integer.IsNormalized(f.Num) && integer.IsNormalized(f.Den) && toBigInt(f.Num).Cmp(want.Num()) == 0 && toBigInt(f.Den).Cmp(want.Denom()) == 0
		if IsNormalized(f) != normal || !IsNormalized(Normalize(f)) {
			t.Fatal("IsNormalized", f)
		}
		if g, e := New(f.Num, f.Den); e == api.OK {
			check(t, "New", g, want)
		} else if toBigInt(f.Den).Sign() != 0 {
			t.Fatal("New", f, e)
		}
	}
	one := integer.FromInt(1)
	for _, f := range []api.Rat{{}, {Num: one}, {Num: one, Den: integer.FromInt(-1)}, {Den: integer.FromInt(2)}, {Num: integer.FromInt(2), Den: integer.FromInt(4)}, {Num: api.Int{Neg: true}, Den: one}} {
		if IsNormalized(f) {
			t.Error("IsNormalized", f)
		}
	}
	if !IsNormalized(api.Rat{Den: one}) {
		t.Error("IsNormalized(0/1)")
	}
}

func TestP3_2Arithmetic(t *testing.T) {
	r := rand.New(rand.NewSource(2))
	for range 20000 {
		a, b := random(r), random(r)
		x, y := toBig(a), toBig(b)
		if r.Intn(4) == 0 {
			b, y = Normalize(a), x
		}
		if Cmp(a, b) != x.Cmp(y) {
			t.Fatal("Cmp", a, b)
		}
		check(t, "Neg", Neg(a), new(big.Rat).Neg(x))
		check(t, "Add", Add(a, b), new(big.Rat).Add(x, y))
		check(t, "Sub", Sub(a, b), new(big.Rat).Sub(x, y))
		check(t, "Mul", Mul(a, b), new(big.Rat).Mul(x, y))
		half := new(big.Rat).Add(x, y)
		check(t, "Midpoint", Midpoint(a, b), half.Mul(half, big.NewRat(1, 2)))
		check(t, "Sum", Sum(a, b, a), new(big.Rat).Add(x, new(big.Rat).Add(y, x)))
		q, e := Quo(a, b)
		if y.Sign() == 0 {
			if e != api.ErrDivideByZero || !isZeroValue(q) {
				t.Fatal("Quo by zero", q, e)
			}
			continue
		}
		check(t, "Quo", q, new(big.Rat).Quo(x, y))
	}
	check(t, "Sum of nothing", Sum(), new(big.Rat))
	check(t, "Sum of one", Sum(api.Rat{Num: integer.FromInt(4), Den: integer.FromInt(-6)}), big.NewRat(-2, 3))
}

// TestWordBoundaries: sums and products at which machine words end.
func TestWordBoundaries(t *testing.T) {
	ints := []int{0, 1, -1, 3, 1 << 31, 1<<31 - 1, 1 << 32, math.MaxInt, -math.MaxInt, math.MinInt, 1 << 62, -1 << 62}
	for _, n := range ints {
		for _, m := range ints {
			for _, d := range ints[1:] {
				a, _ := FromInts(n, d)
				b, _ := FromInts(m, 3)
				check(t, "Add", Add(a, b), new(big.Rat).Add(toBig(a), toBig(b)))
				check(t, "Mul", Mul(a, b), new(big.Rat).Mul(toBig(a), toBig(b)))
				check(t, "Add with equal denominators", Add(FromInt(n), FromInt(m)), new(big.Rat).Add(toBig(FromInt(n)), toBig(FromInt(m))))
				if Cmp(a, b) != toBig(a).Cmp(toBig(b)) {
					t.Fatal("Cmp", n, m, d)
				}
			}
		}
	}
}

func TestP3_3Rounding(t *testing.T) {
	r := rand.New(rand.NewSource(3))
	floor := func(x *big.Rat) *big.Int {
		return new(big.Int).Div(x.Num(), x.Denom()) // Euclidean: the floor for a positive divisor
	}
	for range 5000 {
		a := random(r)
		if r.Intn(2) == 0 {
			a, _ = FromInts(r.Intn(41)-20, 1+r.Intn(6))
		}
		x := toBig(a)
		if toBigInt(Floor(a)).Cmp(floor(x)) != 0 {
			t.Fatal("Floor", a)
		}
		if up := floor(new(big.Rat).Neg(x)); toBigInt(Ceil(a)).Cmp(up.Neg(up)) != 0 {
			t.Fatal("Ceil", a)
		}
		want := floor(new(big.Rat).Add(new(big.Rat).Abs(x), big.NewRat(1, 2)))
		if x.Sign() < 0 {
			want.Neg(want)
		}
		got := Round(a)
		if toBigInt(got).Cmp(want) != 0 || !integer.IsNormalized(got) {
			t.Fatal("Round", a, got, want)
		}
	}
	for _, f := range []func(api.Rat) api.Int{Floor, Ceil, Round} {
		if n := f(api.Rat{Num: integer.FromInt(5)}); integer.Sign(n) != 0 {
			t.Error("a number with denominator 0 represents 0:", n)
		}
	}
}

func TestP3_4Field(t *testing.T) {
	r := rand.New(rand.NewSource(4))
	for range 3000 {
		a, b := random(r), random(r)
		if !reflect.DeepEqual(Sub(Add(a, b), b), Normalize(a)) {
			t.Fatal("a + b - b", a, b)
		}
		if q, e := Quo(Mul(a, b), b); e == api.OK && Cmp(q, a) != 0 {
			t.Fatal("a * b / b", a, b)
		}
	}
}

func TestArgumentsStayAsTheyAre(t *testing.T) {
	f := api.Rat{Num: api.Int{Mag: []uint32{6, 0}}, Den: api.Int{Neg: true, Mag: []uint32{4, 0, 0}}}
	Cmp(f, f)
	Normalize(f)
	n := Floor(api.Rat{Num: api.Int{Mag: []uint32{6}}, Den: integer.FromInt(1)})
	n.Mag[0] = 1
	if !reflect.DeepEqual(f, api.Rat{Num: api.Int{Mag: []uint32{6, 0}}, Den: api.Int{Neg: true, Mag: []uint32{4, 0, 0}}}) {
		t.Error("an argument was modified:", f)
	}
}
