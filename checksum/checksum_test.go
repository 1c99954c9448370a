package checksum

import (
	"bytes"
	"hash/crc32"
	"hash/fnv"
	"math/rand"
	"testing"

	"grisaille/api"
)

func randomBytes(r *rand.Rand, most int) []byte {
	b := make([]byte, r.Intn(most+1))
	r.Read(b)
	return b
}

func TestP7_1CRC32(t *testing.T) {
	if CRC32([]byte("123456789")) != 0xcbf43926 || CRC32() != 0 || CRC32(nil, nil) != 0 {
		t.Error("CRC32")
	}
	r := rand.New(rand.NewSource(1))
	for range 500 {
		a, b, c := randomBytes(r, 20), randomBytes(r, 20), randomBytes(r, 3)
		want := crc32.ChecksumIEEE(append(append(bytes.Clone(a), b...), c...))
		if CRC32(a, b, c) != want || UpdateCRC32(UpdateCRC32(CRC32(a), b), c) != want {
			t.Fatal("CRC32 of parts", a, b, c)
		}
	}
}

func TestP7_2AppendAndVerify(t *testing.T) {
	b := append(make([]byte, 0, 99), "123456789"...)
	long := AppendCRC32(b)
	if want := []byte("123456789\x26\x39\xf4\xcb"); !bytes.Equal(long, want) {
		t.Errorf("AppendCRC32: %x", long)
	}
	if bytes.ContainsAny(b[:cap(b)][9:], "\x26\x39") {
		t.Error("AppendCRC32 wrote into the spare capacity of its argument")
	}
	got, e := VerifyCRC32(long)
	if !bytes.Equal(got, b) || e != api.OK {
		t.Error("VerifyCRC32", got, e)
	}
	if got[0]++; long[0] != '1' {
		t.Error("VerifyCRC32 shares memory with its argument")
	}
	if got, e := VerifyCRC32([]byte{0, 0, 0, 0}); len(got) != 0 || e != api.OK {
		t.Error("the checksum of nothing", got, e)
	}
	for _, b := range [][]byte{nil, {0}, {0, 0, 0}} {
		if got, e := VerifyCRC32(b); len(got) != 0 || e != api.ErrTruncated {
			t.Error("VerifyCRC32", b, got, e)
		}
	}
	for _, b := range [][]byte{{1, 0, 0, 0}, {0, 0, 0, 0, 0}, []byte("123456789\xcb\xf4\x39\x26")} {
		if got, e := VerifyCRC32(b); len(got) != 0 || e != api.ErrChecksum {
			t.Error("VerifyCRC32", b, got, e)
		}
	}
}

func TestP7_3FNV64(t *testing.T) {
	if FNV64(nil) != 14695981039346656037 {
		t.Error("FNV64 of nothing")
	}
	r := rand.New(rand.NewSource(2))
	for range 200 {
		b := randomBytes(r, 30)
		h := fnv.New64a()
		h.Write(b)
		if FNV64(b) != h.Sum64() {
			t.Fatal("FNV64", b)
		}
	}
}

func TestP7_4Bursts(t *testing.T) {
	r := rand.New(rand.NewSource(3))
	for range 3000 {
		b := AppendCRC32(randomBytes(r, 12))
		start := r.Intn(8 * len(b))
		width := 1 + r.Intn(min(32, 8*len(b)-start))
		b[start/8] ^= 1 << (start % 8)
		for i := start + 1; i < start+width; i++ {
			if i == start+width-1 || r.Intn(2) == 0 {
				b[i/8] ^= 1 << (i % 8)
			}
		}
		if _, e := VerifyCRC32(b); e != api.ErrChecksum {
			t.Fatal("a burst was not noticed", b, start, width)
		}
	}
}
