package binenc

import (
	"bytes"
	"encoding/binary"
	"encoding/hex"
	"math"
	"math/rand"
	"reflect"
	"slices"
	"strings"
	"testing"

	"grisaille/api"
	"grisaille/integer"
	"grisaille/rational"
)

// unhex decodes a test's input; blanks are skipped.
func unhex(t *testing.T, s string) []byte {
	t.Helper()
	b, err := hex.DecodeString(strings.ReplaceAll(s, " ", ""))
	if err != nil {
		t.Fatal(err)
	}
	return b
}

func rat(n, d int) api.Rat {
	f, _ := rational.FromInts(n, d)
	return f
}

func TestP6_1Encodings(t *testing.T) {
	for _, n := range []uint64{0, 1, 127, 128, 300, 1<<14 - 1, 1 << 14, math.MaxUint64} {
		if want := binary.AppendUvarint(nil, n); !bytes.Equal(PutUvarint(n), want) {
			t.Error("PutUvarint", n, PutUvarint(n))
		}
	}
	for _, n := range []int{0, 1, -1, 63, 64, -64, -65, math.MaxInt, math.MinInt} {
		if want := binary.AppendVarint(nil, int64(n)); !bytes.Equal(PutVarint(n), want) {
			t.Error("PutVarint", n, PutVarint(n))
		}
	}
	if b := PutBytes([]byte("abc")); string(b) != "\x03abc" || string(PutBytes(nil)) != "\x00" {
		t.Error("PutBytes", b)
	}
	for _, c := range []struct {
		f    api.Rat
		want string
	}{
		{rat(-1, 2), "01 01 01 01 02"}, {rat(0, 1), "00 00 01 01"}, {api.Rat{}, "00 00 01 01"}, {rat(256, 1), "00 02 00 01 01 01"},
		{api.Rat{Num: integer.FromInt(6), Den: integer.FromInt(-4)}, "01 01 03 01 02"}, {rat(1, 1<<32), "00 01 01 05 00 00 00 00 01"},
	} {
		if b := PutRational(c.f); !bytes.Equal(b, unhex(t, c.want)) {
			t.Errorf("PutRational(%v) = %x", c.f, b)
		}
	}
}

func TestP6_2Integers(t *testing.T) {
	nine := strings.Repeat("80", 9)
	full := strings.Repeat("ff", 9)
	for _, c := range []struct {
		in string
		at int
		n  uint64
		to int
		e  api.Errno
	}{
		{"00", 0, 0, 1, api.OK}, {"ff 7f", 1, 127, 2, api.OK}, {"ac02", 0, 300, 2, api.OK}, {full + "01", 0, math.MaxUint64, 10, api.OK},
		{nine + "01", 0, 1 << 63, 10, api.OK}, {full + "02", 0, 0, 0, api.ErrSyntax}, {full + "80", 0, 0, 0, api.ErrSyntax}, {nine + "00", 0, 0, 0, api.ErrSyntax},
		{nine, 0, 0, 0, api.ErrTruncated}, {"80", 0, 0, 0, api.ErrTruncated}, {"", 0, 0, 0, api.ErrTruncated}, {"05", 1, 0, 0, api.ErrTruncated},
		{"05", 2, 0, 0, api.ErrArgument}, {"05", -1, 0, 0, api.ErrArgument}, {"05", math.MinInt, 0, 0, api.ErrArgument}, {"05", math.MaxInt, 0, 0, api.ErrArgument},
		{"8000", 0, 0, 0, api.ErrSyntax}, {"ff00", 0, 0, 0, api.ErrSyntax},
	} {
		n, to, e := Uvarint(unhex(t, c.in), c.at)
		if n != c.n || to != c.to || e != c.e {
			t.Errorf("Uvarint(%s, %d) = %d, %d, %d", c.in, c.at, n, to, e)
		}
		m, to, f := Varint(unhex(t, c.in), c.at)
		want := int(c.n / 2)
		if c.n%2 == 1 {
			want = -want - 1
		}
		if m != want || to != c.to || f != c.e {
			t.Errorf("Varint(%s, %d) = %d, %d, %d", c.in, c.at, m, to, f)
		}
	}
}

func TestP6_3BytesAndRationals(t *testing.T) {
	for _, c := range []struct {
		in       string
		at, most int
		want     string
		to       int
		e        api.Errno
	}{
		{"03 616263 ff", 0, 3, "abc", 4, api.OK}, {"99 02 6162", 1, 9, "ab", 4, api.OK}, {"00", 0, 0, "", 1, api.OK},
		{"03 616263", 0, 2, "", 0, api.ErrLimit}, {"00", 0, -1, "", 0, api.ErrLimit}, {"03 6162", 0, 3, "", 0, api.ErrTruncated}, {"04 6162", 0, 3, "", 0, api.ErrLimit},
		{"ffffffffffffffffff01", 0, math.MaxInt, "", 0, api.ErrLimit}, {"ffffffffffffffff7f", 0, math.MaxInt, "", 0, api.ErrTruncated},
		{"8000", 0, -1, "", 0, api.ErrSyntax}, {"00", 2, 5, "", 0, api.ErrArgument}, {"", 0, 5, "", 0, api.ErrTruncated},
	} {
		b := unhex(t, c.in)
		s, to, e := Bytes(b, c.at, c.most)
		if string(s) != c.want || to != c.to || e != c.e {
			t.Errorf("Bytes(%s, %d, %d) = %q, %d, %d", c.in, c.at, c.most, s, to, e)
		}
		if len(s) > 0 {
			if s[0]++; !bytes.Equal(b, unhex(t, c.in)) {
				t.Error("Bytes shares memory with its argument")
			}
		}
	}
	long := "81 20" + strings.Repeat("01", 4097) // one byte more than a part may have
	for in, want := range map[string]api.Errno{
		"00 00 01 01": api.OK, "01 01 01 01 02": api.OK, "": api.ErrTruncated, "02": api.ErrSyntax, "00": api.ErrTruncated, "00 01": api.ErrTruncated, "00 01 01": api.ErrTruncated,
		"01 00 01 01": api.ErrSyntax, "00 01 02 01 02": api.ErrSyntax, "00 01 01 00": api.ErrSyntax, "00 00 00": api.ErrSyntax, "00 02 01 00 01 01": api.ErrSyntax,
		"00 01 00 01 01": api.ErrSyntax, "00 00 01 02": api.ErrSyntax, "00 01 01 02 01 00": api.ErrSyntax, "00" + long + "01 01": api.ErrLimit, "00 01 01" + long: api.ErrLimit,
		"02" + long: api.ErrSyntax, "00 80 00": api.ErrSyntax,
	} {
		f, to, e := Rational(unhex(t, in), 0)
		if e != want || e != api.OK && (to != 0 || !reflect.DeepEqual(f, api.Rat{})) {
			t.Errorf("Rational(%.30s) = %v, %d, %d", in, f, to, e)
		}
	}
	for _, at := range []int{-1, 2} {
		if _, _, e := Rational([]byte{9}, at); e != api.ErrArgument {
			t.Error("Rational at", at, e)
		}
	}
	if _, _, e := Rational([]byte{9}, 1); e != api.ErrTruncated {
		t.Error("Rational at the end", e)
	}
}

func TestP6_5Ints(t *testing.T) {
	if b := PutInts([]int{5, 3, 3}); !bytes.Equal(b, unhex(t, "03 0a 03 00")) || !bytes.Equal(PutInts(nil), []byte{0}) {
		t.Errorf("PutInts: %x", b)
	}
	for _, c := range []struct {
		in   string
		most int
		want []int
		to   int
		e    api.Errno
	}{
		{"03 0a 03 00", 3, []int{5, 3, 3}, 4, api.OK}, {"00", 0, nil, 1, api.OK}, {"00", -1, nil, 0, api.ErrLimit}, {"03 0a 03 00", 2, nil, 0, api.ErrLimit},
		{"03 0a 03", 3, nil, 0, api.ErrTruncated}, {"02 0a 8000", 3, nil, 0, api.ErrSyntax}, {"", 3, nil, 0, api.ErrTruncated}, {"ffffffffffffffff7f 00", math.MaxInt, nil, 0, api.ErrTruncated},
	} {
		l, to, e := Ints(unhex(t, c.in), 0, c.most)
		if !slices.Equal(l, c.want) || to != c.to || e != c.e {
			t.Errorf("Ints(%s, %d) = %v, %d, %d", c.in, c.most, l, to, e)
		}
	}
	if _, _, e := Ints(nil, 1, 3); e != api.ErrArgument {
		t.Error("Ints behind the end", e)
	}
}

func TestP6_6Runs(t *testing.T) {
	if b := PutRuns([]byte("aab")); !bytes.Equal(b, unhex(t, "02 02 61 01 62")) || !bytes.Equal(PutRuns(nil), []byte{0}) {
		t.Errorf("PutRuns: %x", b)
	}
	for _, c := range []struct {
		in   string
		most int
		want string
		to   int
		e    api.Errno
	}{
		{"02 02 61 01 62 77", 3, "aab", 5, api.OK}, {"00", 0, "", 1, api.OK}, {"00", -1, "", 0, api.ErrLimit}, {"8000", -1, "", 0, api.ErrSyntax}, {"05", -1, "", 0, api.ErrLimit},
		{"02 02 61 01 62", 2, "", 0, api.ErrLimit}, {"02 02 61 01", 3, "", 0, api.ErrTruncated}, {"02 02 61", 3, "", 0, api.ErrTruncated}, {"01 00", 3, "", 0, api.ErrTruncated}, {"01 00 61", 3, "", 0, api.ErrSyntax},
		{"02 01 61 01 61", 9, "", 0, api.ErrSyntax}, {"02 01 61 05 61", 2, "", 0, api.ErrSyntax}, {"01 8100 61", 9, "", 0, api.ErrSyntax}, {"01 ffffffffffffffffff01 61", 9, "", 0, api.ErrLimit}, {"", 9, "", 0, api.ErrTruncated},
		{"01 01 00", 9, "\x00", 3, api.OK}, {"ffffffffffffffffff01", 9, "", 0, api.ErrTruncated},
	} {
		s, to, e := Runs(unhex(t, c.in), 0, c.most)
		if string(s) != c.want || to != c.to || e != c.e {
			t.Errorf("Runs(%s, %d) = %q, %d, %d", c.in, c.most, s, to, e)
		}
	}
	if _, _, e := Runs(nil, -1, 3); e != api.ErrArgument {
		t.Error("Runs before the start", e)
	}
}

// TestP6_4P6_7RoundTrips: decoding inverts encoding with other bytes around, and what is decoded was encoded exactly so.
func TestP6_4P6_7RoundTrips(t *testing.T) {
	r := rand.New(rand.NewSource(1))
	around := func(b []byte) ([]byte, int, int) {
		front := make([]byte, r.Intn(4))
		r.Read(front)
		all := append(slices.Clone(front), b...)
		return append(all, byte(r.Intn(256)), 0), len(front), len(front) + len(b)
	}
	for range 3000 {
		n := int(r.Uint64()) >> r.Intn(64)
		b, at, end := around(PutVarint(n))
		if m, to, e := Varint(b, at); m != n || to != end || e != api.OK {
			t.Fatal("Varint", n, m, to, e)
		}
		s := make([]byte, r.Intn(6))
		for i := range s {
			s[i] = byte(r.Intn(2))
		}
		b, at, end = around(PutBytes(s))
		if u, to, e := Bytes(b, at, len(s)); !bytes.Equal(u, s) || to != end || e != api.OK {
			t.Fatal("Bytes", s, u, to, e)
		}
		b, at, end = around(PutRuns(s))
		if u, to, e := Runs(b, at, len(s)); !bytes.Equal(u, s) || to != end || e != api.OK {
			t.Fatal("Runs", s, u, to, e)
		}
		f := rational.Mul(rat(int(r.Uint64())>>r.Intn(64), 1+r.Intn(99)), rat(r.Intn(1<<40), 1+r.Intn(1<<40)))
		b, at, end = around(PutRational(f))
		if g, to, e := Rational(b, at); rational.Cmp(f, g) != 0 || !rational.IsNormalized(g) || to != end || e != api.OK {
			t.Fatal("Rational", f, g, to, e)
		}
		l := make([]int, r.Intn(5))
		for i := range l {
			l[i] = int(r.Uint64())
		}
		b, at, end = around(PutInts(l))
		if m, to, e := Ints(b, at, len(l)); !slices.Equal(m, l) || to != end || e != api.OK {
			t.Fatal("Ints", l, m, to, e)
		}
	}
	for range 20000 {
		b := make([]byte, r.Intn(9))
		for i := range b {
			b[i] = []byte{0, 1, 2, 3, 128, 255, 97}[r.Intn(7)]
		}
		if n, to, e := Uvarint(b, 0); e == api.OK && !bytes.Equal(PutUvarint(n), b[:to]) {
			t.Fatal("Uvarint", b)
		}
		if f, to, e := Rational(b, 0); e == api.OK && !bytes.Equal(PutRational(f), b[:to]) {
			t.Fatal("Rational", b)
		}
		if l, to, e := Ints(b, 0, 99); e == api.OK && !bytes.Equal(PutInts(l), b[:to]) {
			t.Fatal("Ints", b)
		}
		if s, to, e := Runs(b, 0, 99999); e == api.OK && !bytes.Equal(PutRuns(s), b[:to]) {
			t.Fatal("Runs", b)
		}
	}
}
