package numtext

import (
	"encoding/hex"
	"math"
	"math/rand"
	"reflect"
	"strconv"
	"strings"
	"testing"

	"grisaille/api"
	"grisaille/integer"
	"grisaille/rational"
)

var ints = []int{0, 1, -1, 9, 10, -10, 4294967296, math.MaxInt, math.MinInt}

func TestP4_1Ints(t *testing.T) {
	for _, n := range ints {
		s := FormatInt(n)
		if s != strconv.Itoa(n) {
			t.Error("FormatInt", n, s)
		}
		if m, e := ParseInt(s); m != n || e != api.OK {
			t.Error("ParseInt", s, m, e)
		}
	}
	for s, want := range map[string]api.Errno{
		"": api.ErrSyntax, "-": api.ErrSyntax, "-0": api.ErrSyntax, "+1": api.ErrSyntax, "01": api.ErrSyntax, "1.0": api.ErrSyntax, " 1": api.ErrSyntax,
		"9223372036854775808": api.ErrRange, "-9223372036854775809": api.ErrRange, strings.Repeat("1", 1000): api.ErrRange, strings.Repeat("1", 1001): api.ErrLimit,
	} {
		if n, e := ParseInt(s); n != 0 || e != want {
			t.Errorf("ParseInt(%.9q) = %v, %v", s, n, e)
		}
		if n, e := ParseIntRange(s, math.MinInt, math.MaxInt); n != 0 || e != want {
			t.Errorf("ParseIntRange(%.9q) = %v, %v", s, n, e)
		}
	}
	for _, c := range []struct {
		s         string
		low, high int
		n         int
		e         api.Errno
	}{
		{"5", 5, 5, 5, api.OK}, {"5", 0, 4, 0, api.ErrRange}, {"5", 6, 9, 0, api.ErrRange}, {"5", 6, 4, 0, api.ErrRange}, {"-3", -3, 0, -3, api.OK}, {"x", 6, 4, 0, api.ErrSyntax},
	} {
		if n, e := ParseIntRange(c.s, c.low, c.high); n != c.n || e != c.e {
			t.Error("ParseIntRange", c, n, e)
		}
	}
}

func TestP4_2Rationals(t *testing.T) {
	for _, c := range []struct {
		n, d int
		want string
	}{{0, 1, "0"}, {0, -7, "0"}, {6, 3, "2"}, {6, -4, "-3/2"}, {-1, 2, "-1/2"}, {1, 1 << 40, "1/1099511627776"}} {
		f := api.Rat{Num: integer.FromInt(c.n), Den: integer.FromInt(c.d)}
		s := FormatRational(f)
		if s != c.want {
			t.Error("FormatRational", c, s)
		}
		if g, e := ParseRational(s); e != api.OK || !reflect.DeepEqual(g, rational.Normalize(f)) {
			t.Error("ParseRational", s, g, e)
		}
	}
	if s := FormatRational(api.Rat{Num: integer.FromInt(5)}); s != "0" {
		t.Error("a number with denominator 0:", s)
	}
	long := strings.Repeat("7", 1001)
	for s, want := range map[string]api.Errno{
		"": api.ErrSyntax, "/": api.ErrSyntax, "1/": api.ErrSyntax, "/2": api.ErrSyntax, "2/4": api.ErrSyntax, "3/1": api.ErrSyntax, "3/0": api.ErrSyntax, "3/-2": api.ErrSyntax,
		"0/2": api.ErrSyntax, "1/2/3": api.ErrSyntax, "-0/3": api.ErrSyntax, "1/02": api.ErrSyntax, " 1/2": api.ErrSyntax, "1/2 ": api.ErrSyntax,
		long: api.ErrLimit, long + "/x": api.ErrLimit, "x/" + long: api.ErrSyntax, "1/" + long: api.ErrLimit,
	} {
		if f, e := ParseRational(s); e != want || !reflect.DeepEqual(f, api.Rat{}) {
			t.Errorf("ParseRational(%.9q) = %v, %v", s, f, e)
		}
	}
	want, _ := rational.FromInts(-3, 4)
	if f, e := ParseRational("-3/4"); e != api.OK || !reflect.DeepEqual(f, want) {
		t.Error("ParseRational(-3/4)", f, e)
	}
}

func TestP4_3Hex(t *testing.T) {
	all := make([]byte, 256)
	for i := range all {
		all[i] = byte(i)
	}
	if s := EncodeHex(all); s != hex.EncodeToString(all) {
		t.Error("EncodeHex", s)
	}
	if b, e := DecodeHex(EncodeHex(all)); e != api.OK || string(b) != string(all) {
		t.Error("DecodeHex", b, e)
	}
	if b, e := DecodeHex(""); e != api.OK || len(b) != 0 || EncodeHex(nil) != "" {
		t.Error("no bytes", b, e)
	}
	for _, s := range []string{"0", "0g", "AB", "aB", "/0", ":0", "`0", " 00", "00 ", "0x", "é"} {
		if b, e := DecodeHex(s); e != api.ErrSyntax || len(b) != 0 {
			t.Error("DecodeHex", s, b, e)
		}
	}
}

func TestP4_4RoundTrips(t *testing.T) {
	r := rand.New(rand.NewSource(1))
	for range 2000 {
		f, e := rational.FromInts(r.Intn(200)-100, r.Intn(60)+1)
		if e != api.OK {
			t.Fatal(e)
		}
		g, e := ParseRational(FormatRational(f))
		if e != api.OK || !reflect.DeepEqual(f, g) {
			t.Fatal("value, text, value", f, g)
		}
		b := []byte{"0123456789/-"[r.Intn(12)], "0123456789/-"[r.Intn(12)], "0123456789/-"[r.Intn(12)]}
		if g, e := ParseRational(string(b)); e == api.OK && FormatRational(g) != string(b) {
			t.Fatal("text, value, text", string(b), g)
		}
		if n, e := ParseInt(string(b)); e == api.OK && FormatInt(n) != string(b) {
			t.Fatal("text, int, text", string(b), n)
		}
	}
}
