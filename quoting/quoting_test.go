package quoting

import (
	"fmt"
	"math/rand"
	"slices"
	"strings"
	"testing"

	"grisaille/api"
)

const literals = "abcdefghijklmnopqrstuvwxyzABCDEFGHIJKLMNOPQRSTUVWXYZ0123456789._:/+-,=#"

func TestP5_1Words(t *testing.T) {
	for c := range 256 {
		s := string([]byte{byte(c)})
		want := s
		if !strings.Contains(literals, s) {
			want = fmt.Sprintf("*%02x", c)
		}
		if w := Quote(s); w != want {
			t.Errorf("Quote(%q) = %q", s, w)
		}
		if u, e := Unquote(want); u != s || e != api.OK {
			t.Errorf("Unquote(%q) = %q, %v", want, u, e)
		}
		if strings.Contains(literals, s) {
			w := fmt.Sprintf("*%02x", c)
			if u, e := Unquote(w); u != "" || e != api.ErrSyntax {
				t.Errorf("an escaped literal, %q: %q, %v", w, u, e)
			}
		}
	}
	if Quote("") != "*" || Quote("a b") != "a*20b" || Quote("é") != "*c3*a9" {
		t.Error("Quote")
	}
	if s, e := Unquote("*"); s != "" || e != api.OK {
		t.Error("Unquote(*)", s, e)
	}
	for _, w := range []string{"", "a*", "**", "*2", "a*2", "*2A", "*2G", "*g0", " ", "a b", "é", "*20*", "**2a", "a\n", "*61", "\x00", "*2 "} {
		if s, e := Unquote(w); s != "" || e != api.ErrSyntax {
			t.Errorf("Unquote(%q) = %q, %v", w, s, e)
		}
	}
}

func TestP5_2Fields(t *testing.T) {
	if s := JoinFields([]string{"a b", ""}); s != "a*20b *" {
		t.Error("JoinFields", s)
	}
	if JoinFields(nil) != "" || JoinFields([]string{"x"}) != "x" {
		t.Error("JoinFields")
	}
	if l, i, e := SplitFields("a*20b * c"); !slices.Equal(l, []string{"a b", "", "c"}) || i != 0 || e != api.OK {
		t.Error("SplitFields", l, i, e)
	}
	if l, i, e := SplitFields(""); len(l) != 0 || i != 0 || e != api.OK {
		t.Error("SplitFields of the empty line", l, i, e)
	}
	for line, want := range map[string]int{" ": 0, "a ": 1, " a": 0, "a  b": 1, "a b *61": 2, "*2 *3": 0, "a\tb": 0, "a b\n": 1} {
		if l, i, e := SplitFields(line); len(l) != 0 || i != want || e != api.ErrSyntax {
			t.Errorf("SplitFields(%q) = %q, %v, %v", line, l, i, e)
		}
	}
}

func TestP5_3Lines(t *testing.T) {
	for text, want := range map[string][]string{"": nil, "\n": {""}, "a\n": {"a"}, "a\n\nb\n": {"a", "", "b"}, "\r\n": {"\r"}} {
		if l, e := SplitLines(text); !slices.Equal(l, want) || e != api.OK {
			t.Errorf("SplitLines(%q) = %q, %v", text, l, e)
		}
		if s := JoinLines(want); s != text {
			t.Errorf("JoinLines(%q) = %q", want, s)
		}
	}
	for _, text := range []string{"a", "a\nb", "\n ", "\r"} {
		if l, e := SplitLines(text); len(l) != 0 || e != api.ErrSyntax {
			t.Errorf("SplitLines(%q) = %q, %v", text, l, e)
		}
	}
}

func TestP5_4RoundTrips(t *testing.T) {
	r := rand.New(rand.NewSource(1))
	for range 3000 {
		fields := make([]string, r.Intn(4))
		for i := range fields {
			b := make([]byte, r.Intn(5))
			for j := range b {
				b[j] = byte(r.Intn(256))
			}
			fields[i] = string(b)
		}
		if l, _, e := SplitFields(JoinFields(fields)); !slices.Equal(l, fields) || e != api.OK {
			t.Fatal("SplitFields of JoinFields", fields, l)
		}
		var line []byte
		for range r.Intn(8) {
			line = append(line, "a* 0215f\n"[r.Intn(9)])
		}
		if l, _, e := SplitFields(string(line)); e == api.OK && JoinFields(l) != string(line) {
			t.Fatalf("JoinFields of SplitFields: %q", line)
		}
	}
}
