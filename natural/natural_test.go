package natural

import (
	"math"
	"math/big"
	"math/rand"
	"slices"
	"strings"
	"testing"

	"grisaille/api"
)

// toBig is the oracle's form of a number.
func toBig(a []uint32) *big.Int {
	n := new(big.Int)
	for i := len(a) - 1; i >= 0; i-- {
		n.Lsh(n, 32).Or(n, big.NewInt(int64(a[i])))
	}
	return n
}

// random returns a number of up to most digits, often with digits at the ends of their range and with trailing zeros.
func random(r *rand.Rand, most int) []uint32 {
	a := make([]uint32, r.Intn(most+1))
	for i := range a {
		switch r.Intn(4) {
		case 0:
			a[i] = 0
		case 1:
			a[i] = math.MaxUint32
		case 2:
			a[i] = 1 << 31
		default:
			a[i] = r.Uint32()
		}
	}
	return a
}

// check fails unless got is normalized and has the value want.
func check(t *testing.T, what string, got []uint32, want *big.Int) {
	t.Helper()
	if !IsNormalized(got) || toBig(got).Cmp(want) != 0 {
		t.Fatalf("%s: got %v, want %v", what, got, want)
	}
}

func TestP1_1Representation(t *testing.T) {
	for _, n := range []uint64{0, 1, math.MaxUint32, 1 << 32, math.MaxUint64} {
		check(t, "FromUint64", FromUint64(n), new(big.Int).SetUint64(n))
	}
	if !IsNormalized(nil) || !IsNormalized([]uint32{0, 1}) || IsNormalized([]uint32{0}) || IsNormalized([]uint32{1, 0}) {
		t.Error("IsNormalized")
	}
	a := []uint32{1, 0, 2, 0, 0}
	if n := Normalize(a); !slices.Equal(n, []uint32{1, 0, 2}) || len(Normalize([]uint32{0, 0})) != 0 {
		t.Error("Normalize", n)
	} else if n[0] = 9; a[0] != 1 {
		t.Error("Normalize shares memory with its argument")
	}
	r := rand.New(rand.NewSource(1))
	for range 3000 {
		a, b := random(r, 4), random(r, 4)
		if r.Intn(3) == 0 {
			b = append(slices.Clone(a), 0, 0)
		}
		if Cmp(a, b) != toBig(a).Cmp(toBig(b)) {
			t.Fatal("Cmp", a, b)
		}
		if BitLen(a) != toBig(a).BitLen() {
			t.Fatal("BitLen", a)
		}
	}
}

func TestP1_2Arithmetic(t *testing.T) {
	r := rand.New(rand.NewSource(2))
	for range 20000 {
		a, b := random(r, 7), random(r, 5)
		before := append(slices.Clone(a), b...)
		x, y := toBig(a), toBig(b)
		check(t, "Add", Add(a, b), new(big.Int).Add(x, y))
		check(t, "Mul", Mul(a, b), new(big.Int).Mul(x, y))
		check(t, "GCD", GCD(a, b), new(big.Int).GCD(nil, nil, x, y))
		d, ok := Sub(a, b)
		if ok != (x.Cmp(y) >= 0) || !ok && len(d) != 0 {
			t.Fatal("Sub", a, b, d, ok)
		}
		if ok {
			check(t, "Sub", d, new(big.Int).Sub(x, y))
		}
		q, m, e := DivMod(a, b)
		if y.Sign() == 0 {
			if e != api.ErrDivideByZero || len(q)+len(m) != 0 {
				t.Fatal("DivMod by zero", q, m, e)
			}
		} else {
			wantQ, wantM := new(big.Int).QuoRem(x, y, new(big.Int))
			check(t, "quotient", q, wantQ)
			check(t, "remainder", m, wantM)
		}
		if !slices.Equal(before, append(slices.Clone(a), b...)) {
			t.Fatal("an argument was modified")
		}
	}
	if p := Mul([]uint32{4294967295}, []uint32{4294967295}); !slices.Equal(p, []uint32{1, 4294967294}) {
		t.Error("the chapter's example:", p)
	}
	if g := GCD(nil, []uint32{6, 0}); !slices.Equal(g, []uint32{6}) {
		t.Error("GCD with zero:", g)
	}
	if g := GCD(nil, nil); len(g) != 0 {
		t.Error("GCD of zeros:", g)
	}
}

// TestLongDivisionCorrections: dividends for which the first estimate of a digit is too great, once or twice, or must be taken back.
func TestLongDivisionCorrections(t *testing.T) {
	most := uint32(math.MaxUint32)
	for _, c := range [][2][]uint32{
		{{0, 0, 1 << 31}, {1, 1 << 31}},
		{{0, most - 1, 1 << 31}, {most, 1 << 31}},
		{{3, 0, 1 << 31}, {1, 0, 1 << 29}},
		{{0, 0, 1 << 31, 1<<31 - 1}, {1, 0, 1 << 31}},
		{{most, most, most, most}, {most, most}},
		{{0, most, most - 1, most}, {most, most, most}},
	} {
		q, r, _ := DivMod(c[0], c[1])
		wantQ, wantR := new(big.Int).QuoRem(toBig(c[0]), toBig(c[1]), new(big.Int))
		check(t, "quotient", q, wantQ)
		check(t, "remainder", r, wantR)
	}
}

func TestP1_3ShiftAndSqrt(t *testing.T) {
	r := rand.New(rand.NewSource(3))
	for range 5000 {
		a := random(r, 6)
		n := r.Intn(300) - 150
		want := toBig(a)
		if n < 0 {
			want.Rsh(want, uint(-n))
		} else {
			want.Lsh(want, uint(n))
		}
		check(t, "Shift", Shift(a, n), want)
		check(t, "Sqrt", Sqrt(a), new(big.Int).Sqrt(toBig(a)))
		square := Mul(a, a)
		check(t, "Sqrt of a square", Sqrt(square), toBig(a))
		if below, ok := Sub(square, []uint32{1}); ok {
			check(t, "Sqrt below a square", Sqrt(below), new(big.Int).Sqrt(toBig(below)))
		}
	}
	one := []uint32{1}
	for _, n := range []int{4096, 4097, math.MaxInt} {
		check(t, "Shift beyond the limit", Shift(one, n), new(big.Int).Lsh(big.NewInt(1), 4096))
	}
	check(t, "Shift at the limit", Shift(one, 4095), new(big.Int).Lsh(big.NewInt(1), 4095))
	wide := Shift(Shift(one, 4096), 4096)
	check(t, "Shift right has no limit", Shift(wide, -8192), big.NewInt(1))
	for _, n := range []int{-32, -33, -5000, math.MinInt} {
		check(t, "Shift to nothing", Shift([]uint32{5}, n), new(big.Int))
	}
	check(t, "Shift of zero", Shift(nil, 70), new(big.Int))
}

func TestP1_4Text(t *testing.T) {
	r := rand.New(rand.NewSource(4))
	for range 3000 {
		a := random(r, 8)
		want := toBig(a).String()
		if s := Format(a); s != want {
			t.Fatal("Format", a, s)
		}
		n, e := Parse(want)
		if e != api.OK {
			t.Fatal("Parse", want, e)
		}
		check(t, "Parse", n, toBig(a))
	}
	long := "1" + strings.Repeat("0", 999)
	want, _ := new(big.Int).SetString(long, 10)
	n, e := Parse(long)
	if e != api.OK {
		t.Fatal("1000 digits:", e)
	}
	check(t, "1000 digits", n, want)
	for s, want := range map[string]api.Errno{
		"": api.ErrSyntax, "007": api.ErrSyntax, "00": api.ErrSyntax, "+1": api.ErrSyntax, "-1": api.ErrSyntax,
		" 1": api.ErrSyntax, "1 ": api.ErrSyntax, "1a": api.ErrSyntax, "/": api.ErrSyntax, ":": api.ErrSyntax,
		"0": api.OK, "10": api.OK, long + "0": api.ErrLimit, long + "x": api.ErrSyntax, "0" + long: api.ErrSyntax,
	} {
		if n, e := Parse(s); e != want || e != api.OK && len(n) != 0 {
			t.Errorf("Parse(%.20q) = %v, %v", s, n, e)
		}
	}
}

func TestP1_5Consequences(t *testing.T) {
	r := rand.New(rand.NewSource(5))
	for range 3000 {
		a, b := random(r, 9), random(r, 6)
		q, m, e := DivMod(a, b)
		if e != api.OK {
			continue
		}
		if Cmp(Add(Mul(q, b), m), a) != 0 || Cmp(m, b) >= 0 {
			t.Fatal("DivMod", a, b, q, m)
		}
	}
	for _, s := range []string{"0", "9", "999999999", "1000000000", "1000000001", "123000000000000000000045"} {
		if n, e := Parse(s); e != api.OK || Format(n) != s {
			t.Error("Format of Parse:", s, n, e)
		}
	}
}

func TestResultsAreNewMemory(t *testing.T) {
	a := []uint32{7, 8, 9}
	results := [][]uint32{Add(a, nil), Add(nil, a), GCD(a, nil), GCD(nil, a), Shift(a, 0), Shift(a, -1), Mul(a, []uint32{1})}
	d, _ := Sub(a, nil)
	_, m, _ := DivMod(a, []uint32{0, 0, 0, 1})
	for _, l := range append(results, d, m) {
		for i := range l[:cap(l)] {
			l[:cap(l)][i] = 77
		}
	}
	if !slices.Equal(a, []uint32{7, 8, 9}) {
		t.Error("a result shares memory with an argument:", a)
	}
}
