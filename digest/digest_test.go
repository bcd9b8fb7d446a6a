package digest_test

import (
	"encoding/binary"
	"fmt"
	"hash/fnv"
	"math"
	"math/big"
	"math/rand"
	"strings"
	"testing"

	"skirmish/api"
	"skirmish/digest"
)

const basis = 14695981039346656037

// numbers returns numbers at and around all powers of two, and others of all sizes.
func numbers() []uint64 {
	list := []uint64{basis, 1099511628211, math.MaxInt64, math.MaxUint64, 0x0123456789abcdef, 0xfedcba9876543210}
	for shift := range 64 {
		for d := range uint64(3) {
			list = append(list, uint64(1)<<shift+d-1)
		}
	}
	random := rand.New(rand.NewSource(5))
	for range 300 {
		list = append(list, random.Uint64()>>random.Intn(64))
	}
	return list
}

// pieces are runes of all sizes, parts of runes, bytes that belong to no rune, and encodings that are not allowed.
var pieces = []string{
	"a", "\x00", "\x7f", "\x80", "\xbf", "\xc0", "\xff", "\u0080", "é", "日", "\uffff", "\U00010000", "\U0010ffff", "\ufffd", "\xef\xbf",
	"\xc3", "\xe6\x97", "\xf0\x9f\x98", "\xc0\x80", "\xed\xa0\x80", "\xf4\x90\x80\x80", "\xf8\x88\x80\x80\x80", "\x80\x80\x80\x80\x80",
}

// texts returns short and long texts of all bytes, and of pieces of runes.
func texts() []string {
	list := []string{"", "foobar", strings.Repeat("\x00", 20), strings.Repeat("日本", 2000), strings.Repeat("\xff\x80", 2000)}
	for a := range 256 {
		list = append(list, string([]byte{byte(a)}))
		for b := range 256 {
			list = append(list, string([]byte{byte(a), byte(b)}))
		}
	}
	for _, a := range pieces {
		for _, b := range pieces {
			for _, c := range pieces {
				list = append(list, a+b+c)
			}
		}
	}
	random := rand.New(rand.NewSource(6))
	for range 1000 {
		b := make([]byte, random.Intn(40))
		random.Read(b)
		list = append(list, string(b))
	}
	return list
}

// extended returns the result of Extend by the rules of the chapter, in exact arithmetic.
func extended(h uint64, s string) uint64 {
	v, prime := new(big.Int).SetUint64(h), big.NewInt(1099511628211)
	modulus := new(big.Int).Lsh(big.NewInt(1), 64)
	for _, b := range []byte(s) {
		v.Xor(v, big.NewInt(int64(b)))
		v.Mul(v, prime).Mod(v, modulus)
	}
	return v.Uint64()
}

// P5.1
func TestKnownDigests(t *testing.T) {
	cases := []struct {
		s string
		h uint64
	}{
		{"", 0xcbf29ce484222325}, {"a", 0xaf63dc4c8601ec8c}, {"b", 0xaf63df4c8601f1a5}, {"foobar", 0x85944171f73967e8}, {"\x00", 0xaf63bd4c8601b7df},
		{"fo", 0x08985907b541d342}, {"foo", 0xdcb27518fed9d577}, {"foob", 0xdd120e790c2512af}, {"chongo was here!\n", 0x46810940eff5f915},
	}
	for _, c := range cases {
		if h := digest.FNV(c.s); h != c.h {
			t.Errorf("FNV(%q) = %x, want %x", c.s, h, c.h)
		}
	}
}

// P5.1
func TestFNV(t *testing.T) {
	for _, s := range texts() {
		hash := fnv.New64a()
		hash.Write([]byte(s))
		if h := digest.FNV(s); h != hash.Sum64() || h != digest.Extend(basis, s) {
			t.Fatalf("FNV(%.40q) = %x, want %x", s, h, hash.Sum64())
		}
	}
}

// P5.1
func TestExtend(t *testing.T) {
	cases := []struct {
		h    uint64
		s    string
		want uint64
	}{
		{0, "", 0}, {7, "", 7}, {math.MaxUint64, "", math.MaxUint64}, {basis, "", basis}, {0, "\x00", 0}, {0, "\x00\x00\x00", 0}, {0, "\x01", 1099511628211}, {1, "\x01", 0}, {'a', "a", 0}, {255, "\xff", 0},
		{255, "\x00", 255 * 1099511628211}, {0, "\xff", 255 * 1099511628211}, {1 << 63, "\x00", 1 << 63}, {math.MaxUint64, "\x00", math.MaxUint64 - 1099511628211 + 1},
	}
	for _, c := range cases {
		if h := digest.Extend(c.h, c.s); h != c.want {
			t.Errorf("Extend(%x, %q) = %x, want %x", c.h, c.s, h, c.want)
		}
	}
	starts, random := numbers(), rand.New(rand.NewSource(7))
	for _, s := range texts() {
		start := starts[random.Intn(len(starts))]
		if h, want := digest.Extend(start, s), extended(start, s); h != want {
			t.Fatalf("Extend(%x, %.40q) = %x, want %x", start, s, h, want)
		}
	}
	for _, start := range starts {
		for _, s := range pieces {
			if h, want := digest.Extend(start, s), extended(start, s); h != want {
				t.Fatalf("Extend(%x, %q) = %x, want %x", start, s, h, want)
			}
		}
	}
}

// P5.1: bytes that belong to no rune are neither left out nor confused with a rune.
func TestBytesAreNotRunes(t *testing.T) {
	different := [][2]string{
		{"\xff", "\xc3\xbf"}, {"\xff", "\xfe"}, {"\xff", "\xef\xbf\xbd"}, {"\x80", "\u0080"}, {"é", "e"}, {"é", "\xc3"}, {"é", "\xa9"}, {"日", "\xe6"}, {"\xe6\x97", "\xe6"}, {"\xc3a", "\xc3b"}, {"\xc0\x80", "\x00"},
	}
	for _, c := range different {
		if digest.FNV(c[0]) == digest.FNV(c[1]) {
			t.Errorf("%q and %q have the same digest", c[0], c[1])
		}
	}
}

// P5.2
func TestMix(t *testing.T) {
	list := numbers()
	for _, a := range list {
		for _, b := range list {
			bytes := binary.LittleEndian.AppendUint64(nil, a)
			bytes = binary.LittleEndian.AppendUint64(bytes, b)
			hash := fnv.New64a()
			hash.Write(bytes)
			if h := digest.Mix(a, b); h != hash.Sum64() {
				t.Fatalf("Mix(%x, %x) = %x, want %x", a, b, h, hash.Sum64())
			}
		}
	}
}

// P5.2: the eight bytes begin with the least significant one, also where they are zero, and both numbers count.
func TestMixOfSmallNumbers(t *testing.T) {
	cases := []struct {
		a, b uint64
		s    string
	}{
		{0, 0, "\x00\x00\x00\x00\x00\x00\x00\x00\x00\x00\x00\x00\x00\x00\x00\x00"},
		{1, 2, "\x01\x00\x00\x00\x00\x00\x00\x00\x02\x00\x00\x00\x00\x00\x00\x00"},
		{2, 1, "\x02\x00\x00\x00\x00\x00\x00\x00\x01\x00\x00\x00\x00\x00\x00\x00"},
		{0x0807060504030201, 0xfffefdfcfbfaf9f8, "\x01\x02\x03\x04\x05\x06\x07\x08\xf8\xf9\xfa\xfb\xfc\xfd\xfe\xff"},
		{1 << 63, 0xc3bf, "\x00\x00\x00\x00\x00\x00\x00\x80\xbf\xc3\x00\x00\x00\x00\x00\x00"},
	}
	for _, c := range cases {
		if h, want := digest.Mix(c.a, c.b), extended(basis, c.s); h != want {
			t.Errorf("Mix(%x, %x) = %x, want %x", c.a, c.b, h, want)
		}
	}
	if digest.Mix(1, 2) == digest.Mix(2, 1) || digest.Mix(0, 1) == digest.Mix(0, 2) || digest.Mix(1, 0) == digest.Mix(2, 0) {
		t.Error("different pairs have the same digest")
	}
}

// P5.3
func TestHex(t *testing.T) {
	cases := []struct {
		h uint64
		s string
	}{
		{0, "0000000000000000"}, {1, "0000000000000001"}, {9, "0000000000000009"}, {10, "000000000000000a"}, {15, "000000000000000f"}, {16, "0000000000000010"}, {255, "00000000000000ff"}, {0xabc, "0000000000000abc"},
		{1 << 60, "1000000000000000"}, {1<<60 - 1, "0fffffffffffffff"}, {1 << 63, "8000000000000000"}, {1<<63 - 1, "7fffffffffffffff"}, {math.MaxUint64, "ffffffffffffffff"}, {0x0123456789abcdef, "0123456789abcdef"}, {basis, "cbf29ce484222325"},
	}
	for _, c := range cases {
		if s := digest.Hex(c.h); s != c.s {
			t.Errorf("Hex(%d) = %q, want %q", c.h, s, c.s)
		}
		if h, e := digest.Unhex(c.s); h != c.h || e != api.OK {
			t.Errorf("Unhex(%q) = %d, %d; want %d", c.s, h, e, c.h)
		}
	}
	for _, n := range numbers() {
		s := digest.Hex(n)
		if s != fmt.Sprintf("%016x", n) {
			t.Fatalf("Hex(%d) = %q", n, s)
		}
		if h, e := digest.Unhex(s); h != n || e != api.OK {
			t.Fatalf("Unhex(%q) = %d, %d; want %d", s, h, e, n)
		}
	}
}

// checkNoHex checks that Unhex refuses s.
func checkNoHex(t *testing.T, s string) {
	t.Helper()
	if h, e := digest.Unhex(s); h != 0 || e != api.ErrSyntax {
		t.Errorf("Unhex(%.60q) = %d, %d; want ErrSyntax", s, h, e)
	}
}

// P5.3
func TestUnhexErrors(t *testing.T) {
	cases := []string{
		"FF", "00000000000000FF", "00000000000000fF", "CBF29CE484222325", "cbf29ce48422232G", "00000000000000fg", "-0000000000000ff", "+0000000000000ff", "-00000000000000ff", "+00000000000000ff",
		"0x000000000000ff", "0X000000000000ff", "0x00000000000000ff", "00000000_00000ff", "0000_0000_0000_00ff", " 00000000000000ff", "00000000000000ff ", "00000000000000f ", " 0000000000000ff", "00000000000000ff\n", "00000000000000f\n", "00000000000000ff\x00", "\x0000000000000000ff",
		"00000000000000.0", "000000000000001h", "١٢٣٤٥٦٧٨", "00000000000000é", "0000000000000日", "000000000000000０", "00000000000000\xff\xff", "\x80\x80\x80\x80\x80\x80\x80\x80\x80\x80\x80\x80\x80\x80\x80\x80",
		"0000000000000000cbf29ce484222325", strings.Repeat("0", 100000), strings.Repeat("f", 100000),
	}
	for _, s := range cases {
		checkNoHex(t, s)
	}
	for size := range 40 {
		if size != 16 {
			checkNoHex(t, strings.Repeat("0", size))
			checkNoHex(t, strings.Repeat("f", size))
		}
	}
}

// P5.3: at each place, only the sixteen digits are accepted.
func TestUnhexOfEachByte(t *testing.T) {
	for _, s := range []string{"0000000000000000", "0123456789abcdef", "ffffffffffffffff"} {
		for place := range len(s) {
			for c := range 256 {
				changed := []byte(s)
				changed[place] = byte(c)
				digit := strings.IndexByte("0123456789abcdef", byte(c))
				if digit < 0 {
					checkNoHex(t, string(changed))
					continue
				}
				h, e := digest.Unhex(string(changed))
				if e != api.OK || h>>(4*(15-place))%16 != uint64(digit) || digest.Hex(h) != string(changed) {
					t.Errorf("Unhex(%q) = %x, %d", changed, h, e)
				}
			}
		}
	}
}

// P5.4: a text may be divided everywhere, also within a rune.
func TestPartsAreCombined(t *testing.T) {
	starts, random := numbers(), rand.New(rand.NewSource(8))
	for _, s := range texts() {
		start := starts[random.Intn(len(starts))]
		for range 5 {
			at := random.Intn(len(s) + 1)
			if digest.Extend(digest.Extend(start, s[:at]), s[at:]) != digest.Extend(start, s) {
				t.Fatalf("the digest of %.40q from %x is another one if the text is divided at %d", s, start, at)
			}
		}
	}
	for _, s := range []string{"", "foobar", "aé日😀\xff\xf0\x9f\xe6", "\xff\xff\x80\x80"} {
		for at := range len(s) + 1 {
			if digest.Extend(digest.FNV(s[:at]), s[at:]) != digest.FNV(s) {
				t.Errorf("the digest of %q is another one if the text is divided at %d", s, at)
			}
		}
	}
}

// P5.5
func TestSingleBytesMatter(t *testing.T) {
	random := rand.New(rand.NewSource(9))
	for _, s := range []string{"\x00", "a", "\xff", "foobar", "aé日😀\xff\xf0\x9f\xe6", strings.Repeat("\x00", 30), strings.Repeat("\xff", 30), strings.Repeat("日", 10)} {
		start := random.Uint64()
		for place := range len(s) {
			found := map[uint64]int{}
			for c := range 256 {
				changed := []byte(s)
				changed[place] = byte(c)
				h := digest.Extend(start, string(changed))
				if other, has := found[h]; has {
					t.Fatalf("with the bytes %d and %d at %d, %q has the same digest", other, c, place, s)
				}
				found[h] = c
			}
		}
	}
}

// P5.5, for long texts
func TestSingleBytesMatterInLongTexts(t *testing.T) {
	random := rand.New(rand.NewSource(10))
	for range 300 {
		b := make([]byte, 1+random.Intn(5000))
		random.Read(b)
		h, place := digest.FNV(string(b)), random.Intn(len(b))
		b[place] ^= byte(1 + random.Intn(255))
		if digest.FNV(string(b)) == h {
			t.Fatalf("a change at %d of %d bytes leaves the digest %x", place, len(b), h)
		}
	}
}
