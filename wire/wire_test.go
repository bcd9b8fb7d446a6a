package wire_test

import (
	"encoding/binary"
	"math"
	"math/big"
	"math/rand"
	"slices"
	"strings"
	"testing"

	"skirmish/api"
	"skirmish/wire"
)

const (
	maxInt  = math.MaxInt
	minInt  = math.MinInt
	maxUint = math.MaxUint64
)

// ff9 are nine bytes of a number that other bytes follow.
const ff9 = "\xff\xff\xff\xff\xff\xff\xff\xff\xff"

// numbers returns numbers at and around all powers of two, and others of all sizes.
func numbers() []uint64 {
	var list []uint64
	for shift := range 64 {
		for d := range uint64(7) {
			list = append(list, uint64(1)<<shift+d-3)
		}
	}
	random := rand.New(rand.NewSource(4))
	for range 500 {
		list = append(list, random.Uint64()>>random.Intn(64))
	}
	return list
}

// ints returns the ints with the bits of numbers, and their opposites.
func ints() []int {
	list := []int{maxInt, minInt}
	for _, n := range numbers() {
		list = append(list, int(n), -int(n))
	}
	return list
}

// texts returns texts of lengths at and around those where the number in front gets longer, and texts of all bytes.
func texts() []string {
	list := []string{"ab", "é日本", "\xff\xfe\x80", "\x00", "\x00\x00", "\x01\x02", strings.Repeat("x", 1<<21)}
	for _, n := range []int{0, 1, 2, 126, 127, 128, 129, 255, 256, 16383, 16384, 16385} {
		list = append(list, strings.Repeat("a", n), strings.Repeat("\x80", n))
	}
	all := make([]byte, 256)
	for b := range all {
		all[b] = byte(b)
	}
	return append(list, string(all))
}

// encoded returns the encoding of a number by the rules of the chapter.
func encoded(n *big.Int) string {
	var b []byte
	for n.Cmp(big.NewInt(128)) >= 0 {
		rest := new(big.Int)
		n, rest = new(big.Int).DivMod(n, big.NewInt(128), rest)
		b = append(b, byte(128+rest.Int64()))
	}
	return string(append(b, byte(n.Int64())))
}

func encodedUint(n uint64) string { return encoded(new(big.Int).SetUint64(n)) }

// encodedInt returns the encoding of an int by the rules of the chapter, in exact arithmetic.
func encodedInt(n int) string {
	twice := new(big.Int).Mul(big.NewInt(2), big.NewInt(int64(n)))
	if n < 0 {
		twice.Neg(twice).Sub(twice, big.NewInt(1))
	}
	return encoded(twice)
}

// read returns the results of TakeUint by the rules of the chapter.
func read(s string, at int) (uint64, int, api.Errno) {
	if at < 0 || at > len(s) {
		return 0, 0, api.ErrArg
	}
	n, factor := new(big.Int), big.NewInt(1)
	for count := 1; ; count++ {
		if at+count > len(s) {
			return 0, 0, api.ErrTruncated
		}
		c := int64(s[at+count-1])
		if count == 10 && c > 1 {
			return 0, 0, api.ErrSyntax
		}
		n.Add(n, new(big.Int).Mul(factor, big.NewInt(c%128)))
		factor.Mul(factor, big.NewInt(128))
		if c >= 128 {
			continue
		}
		if c == 0 && count > 1 {
			return 0, 0, api.ErrSyntax
		}
		return n.Uint64(), at + count, api.OK
	}
}

// inputs returns texts of few bytes, most of them at the edges of what a byte of a number means, and of many bytes.
func inputs() []string {
	var list []string
	for a := range 256 {
		list = append(list, string([]byte{byte(a)}))
		for b := range 256 {
			list = append(list, string([]byte{byte(a), byte(b)}))
		}
	}
	random := rand.New(rand.NewSource(5))
	edges := []byte{0, 1, 2, 127, 128, 129, 255}
	for range 20000 {
		b := make([]byte, random.Intn(14))
		for i := range b {
			b[i] = byte(random.Intn(256))
			if random.Intn(3) > 0 {
				b[i] = edges[random.Intn(len(edges))]
			}
			if random.Intn(12) > 0 {
				b[i] |= 128
			}
		}
		list = append(list, string(b))
	}
	return append(list, "")
}

// positions returns all positions in s, and indices that are no positions.
func positions(s string) []int {
	list := []int{-1, -2, minInt, len(s) + 1, len(s) + 2, maxInt}
	for at := range len(s) + 1 {
		list = append(list, at)
	}
	return list
}

// P4.1
func TestUint(t *testing.T) {
	cases := []struct {
		n uint64
		s string
	}{
		{0, "\x00"}, {1, "\x01"}, {127, "\x7f"}, {128, "\x80\x01"}, {129, "\x81\x01"}, {255, "\xff\x01"}, {256, "\x80\x02"}, {300, "\xac\x02"},
		{16383, "\xff\x7f"}, {16384, "\x80\x80\x01"}, {1<<21 - 1, "\xff\xff\x7f"}, {1 << 21, "\x80\x80\x80\x01"}, {1 << 40, "\x80\x80\x80\x80\x80\x20"},
		{1<<63 - 1, "\xff\xff\xff\xff\xff\xff\xff\xff\x7f"}, {1 << 63, "\x80\x80\x80\x80\x80\x80\x80\x80\x80\x01"}, {maxUint, ff9 + "\x01"},
	}
	for _, c := range cases {
		if s := wire.Uint(c.n); s != c.s {
			t.Errorf("Uint(%d) = %q, want %q", c.n, s, c.s)
		}
		if n, next, e := wire.TakeUint(c.s, 0); n != c.n || next != len(c.s) || e != api.OK {
			t.Errorf("TakeUint(%q, 0) = %d, %d, %d; want %d", c.s, n, next, e, c.n)
		}
	}
	for _, n := range numbers() {
		if s := wire.Uint(n); s != encodedUint(n) || s != string(binary.AppendUvarint(nil, n)) {
			t.Fatalf("Uint(%d) = %q, want %q", n, s, encodedUint(n))
		}
	}
}

// P4.1
func TestTakeUintErrors(t *testing.T) {
	cases := []struct {
		s  string
		at int
		e  api.Errno
	}{
		{"", -1, api.ErrArg}, {"", 1, api.ErrArg}, {"a", -1, api.ErrArg}, {"a", 2, api.ErrArg}, {"a", maxInt, api.ErrArg}, {"a", minInt, api.ErrArg}, {"\x80", 2, api.ErrArg},
		{"", 0, api.ErrTruncated}, {"a", 1, api.ErrTruncated}, {"\x80", 0, api.ErrTruncated}, {"\x80", 1, api.ErrTruncated}, {"a\xff\xff", 1, api.ErrTruncated}, {ff9, 0, api.ErrTruncated},
		// The number could end with an earlier byte.
		{"\x80\x00", 0, api.ErrSyntax}, {"\x80\x00\x00", 0, api.ErrSyntax}, {"\xff\x00", 0, api.ErrSyntax}, {"\x81\x80\x00", 0, api.ErrSyntax}, {"\x00\x80\x00", 1, api.ErrSyntax}, {ff9[1:] + "\x00", 0, api.ErrSyntax}, {ff9 + "\x00", 0, api.ErrSyntax},
		// The tenth byte is too great, whether the text ends behind it or not.
		{ff9 + "\x02", 0, api.ErrSyntax}, {ff9 + "\x7f", 0, api.ErrSyntax}, {ff9 + "\x80", 0, api.ErrSyntax}, {ff9 + "\x81", 0, api.ErrSyntax}, {ff9 + "\xff", 0, api.ErrSyntax}, {ff9 + "\x81\x00", 0, api.ErrSyntax}, {ff9 + "\x81\x01", 0, api.ErrSyntax}, {"\x80\x80\x80\x80\x80\x80\x80\x80\x80\x02", 0, api.ErrSyntax},
		{"a" + ff9 + "\x02", 1, api.ErrSyntax}, {strings.Repeat("\xff", 100), 50, api.ErrSyntax}, {strings.Repeat("\xff", 100), 90, api.ErrSyntax}, {strings.Repeat("\xff", 100), 91, api.ErrTruncated},
	}
	for _, c := range cases {
		if n, next, e := wire.TakeUint(c.s, c.at); n != 0 || next != 0 || e != c.e {
			t.Errorf("TakeUint(%q, %d) = %d, %d, %d; want error %d", c.s, c.at, n, next, e, c.e)
		}
		if n, next, e := wire.TakeInt(c.s, c.at); n != 0 || next != 0 || e != c.e {
			t.Errorf("TakeInt(%q, %d) = %d, %d, %d; want error %d", c.s, c.at, n, next, e, c.e)
		}
		// The errors of the number come before those of the limit.
		for _, most := range []int{minInt, -1, 0, 9, maxInt} {
			if s, next, e := wire.TakeText(c.s, c.at, most); s != "" || next != 0 || e != c.e {
				t.Errorf("TakeText(%q, %d, %d) = %q, %d, %d; want error %d", c.s, c.at, most, s, next, e, c.e)
			}
			if n, next, e := wire.TakeCount(c.s, c.at, most); n != 0 || next != 0 || e != c.e {
				t.Errorf("TakeCount(%q, %d, %d) = %d, %d, %d; want error %d", c.s, c.at, most, n, next, e, c.e)
			}
		}
	}
}

// P4.1
func TestTakeUintOfAllInputs(t *testing.T) {
	for _, s := range inputs() {
		for _, at := range positions(s) {
			want, end, errno := read(s, at)
			if n, next, e := wire.TakeUint(s, at); n != want || next != end || e != errno {
				t.Fatalf("TakeUint(%q, %d) = %d, %d, %d; want %d, %d, %d", s, at, n, next, e, want, end, errno)
			}
		}
	}
}

// P4.2
func TestInt(t *testing.T) {
	cases := []struct {
		n int
		s string
	}{
		{0, "\x00"}, {-1, "\x01"}, {1, "\x02"}, {-2, "\x03"}, {2, "\x04"}, {63, "\x7e"}, {-64, "\x7f"}, {64, "\x80\x01"}, {-65, "\x81\x01"}, {150, "\xac\x02"}, {-151, "\xad\x02"}, {1 << 20, "\x80\x80\x80\x01"}, {-1 << 20, "\xff\xff\x7f"},
		{1 << 62, "\x80\x80\x80\x80\x80\x80\x80\x80\x80\x01"}, {-1 << 62, "\xff\xff\xff\xff\xff\xff\xff\xff\x7f"}, {maxInt, "\xfe\xff\xff\xff\xff\xff\xff\xff\xff\x01"}, {minInt + 1, "\xfd\xff\xff\xff\xff\xff\xff\xff\xff\x01"}, {minInt, ff9 + "\x01"},
	}
	for _, c := range cases {
		if s := wire.Int(c.n); s != c.s {
			t.Errorf("Int(%d) = %q, want %q", c.n, s, c.s)
		}
		if n, next, e := wire.TakeInt(c.s, 0); n != c.n || next != len(c.s) || e != api.OK {
			t.Errorf("TakeInt(%q, 0) = %d, %d, %d; want %d", c.s, n, next, e, c.n)
		}
	}
	for _, n := range ints() {
		s := wire.Int(n)
		if s != encodedInt(n) || s != string(binary.AppendVarint(nil, int64(n))) {
			t.Fatalf("Int(%d) = %q, want %q", n, s, encodedInt(n))
		}
		if v, next, e := wire.TakeInt(s, 0); v != n || next != len(s) || e != api.OK {
			t.Fatalf("TakeInt(%q, 0) = %d, %d, %d; want %d", s, v, next, e, n)
		}
	}
}

// P4.2
func TestTakeIntOfAllInputs(t *testing.T) {
	for _, s := range inputs() {
		for _, at := range positions(s) {
			_, end, errno := read(s, at)
			n, next, e := wire.TakeInt(s, at)
			if next != end || e != errno {
				t.Fatalf("TakeInt(%q, %d) = %d, %d, %d; want position %d, error %d", s, at, n, next, e, end, errno)
			}
			if e == api.OK && s[at:next] != encodedInt(n) || e != api.OK && n != 0 {
				t.Fatalf("TakeInt(%q, %d) = %d, %d, %d", s, at, n, next, e)
			}
		}
	}
}

// P4.3
func TestBool(t *testing.T) {
	if s := wire.Bool(true); s != "\x01" {
		t.Errorf("Bool(true) = %q", s)
	}
	if s := wire.Bool(false); s != "\x00" {
		t.Errorf("Bool(false) = %q", s)
	}
	cases := []struct {
		s    string
		at   int
		want bool
		next int
		e    api.Errno
	}{
		{"\x00", 0, false, 1, api.OK}, {"\x01", 0, true, 1, api.OK}, {"\x00\x01", 0, false, 1, api.OK}, {"\x00\x01", 1, true, 2, api.OK}, {"\x01\x00", 0, true, 1, api.OK}, {"\x01\x00", 1, false, 2, api.OK}, {"\x01\x80", 0, true, 1, api.OK},
		{"", 0, false, 0, api.ErrTruncated}, {"\x01", 1, false, 0, api.ErrTruncated}, {"\x02", 1, false, 0, api.ErrTruncated},
		{"", -1, false, 0, api.ErrArg}, {"", 1, false, 0, api.ErrArg}, {"\x01", -1, false, 0, api.ErrArg}, {"\x01", 2, false, 0, api.ErrArg}, {"\x01", maxInt, false, 0, api.ErrArg}, {"\x01", minInt, false, 0, api.ErrArg},
	}
	for _, c := range cases {
		if b, next, e := wire.TakeBool(c.s, c.at); b != c.want || next != c.next || e != c.e {
			t.Errorf("TakeBool(%q, %d) = %v, %d, %d; want %v, %d, %d", c.s, c.at, b, next, e, c.want, c.next, c.e)
		}
	}
	for c := 2; c < 256; c++ {
		if b, next, e := wire.TakeBool(string([]byte{1, byte(c), 1}), 1); b || next != 0 || e != api.ErrSyntax {
			t.Errorf("TakeBool of the byte %d = %v, %d, %d; want ErrSyntax", c, b, next, e)
		}
	}
}

// P4.4
func TestText(t *testing.T) {
	cases := [][2]string{
		{"", "\x00"}, {"a", "\x01a"}, {"ab", "\x02ab"}, {"\x00", "\x01\x00"}, {"é", "\x02\xc3\xa9"}, {"\xff\x80", "\x02\xff\x80"},
		{strings.Repeat("x", 127), "\x7f" + strings.Repeat("x", 127)}, {strings.Repeat("x", 128), "\x80\x01" + strings.Repeat("x", 128)}, {strings.Repeat("x", 300), "\xac\x02" + strings.Repeat("x", 300)},
	}
	for _, c := range cases {
		if s := wire.Text(c[0]); s != c[1] {
			t.Errorf("Text(%q) = %q, want %q", c[0], s, c[1])
		}
	}
	for _, s := range texts() {
		if got, want := wire.Text(s), encodedUint(uint64(len(s)))+s; got != want {
			t.Errorf("Text of %d bytes = %.20q of %d bytes, want %.20q of %d", len(s), got, len(got), want, len(want))
		}
	}
}

// P4.4
func TestTakeText(t *testing.T) {
	cases := []struct {
		s        string
		at, most int
		want     string
		next     int
		e        api.Errno
	}{
		{"\x02ab", 0, 2, "ab", 3, api.OK}, {"\x02abc", 0, 9, "ab", 3, api.OK}, {"x\x02abc", 1, maxInt, "ab", 4, api.OK}, {"\x00", 0, 0, "", 1, api.OK}, {"\x00a", 0, 5, "", 1, api.OK}, {"a\x00", 1, 0, "", 2, api.OK}, {"\x01\x00", 0, 1, "\x00", 2, api.OK},
		{"\x02ab", 0, 1, "", 0, api.ErrLimit}, {"\x02ab", 0, 0, "", 0, api.ErrLimit}, {"\x02ab", 0, -1, "", 0, api.ErrLimit}, {"\x02ab", 0, minInt, "", 0, api.ErrLimit}, {"\x00", 0, -1, "", 0, api.ErrLimit}, {"\x00", 0, minInt, "", 0, api.ErrLimit},
		{"\x02a", 0, 2, "", 0, api.ErrTruncated}, {"\x02", 0, 2, "", 0, api.ErrTruncated}, {"\x04abc", 0, 9, "", 0, api.ErrTruncated}, {"xyz\x01", 3, 9, "", 0, api.ErrTruncated},
		// The limit comes before the bytes that are missing.
		{"\x02a", 0, 1, "", 0, api.ErrLimit}, {"\x02a", 0, -1, "", 0, api.ErrLimit},
		// Numbers that no int is equal to, and that no sum of positions must overflow with.
		{ff9 + "\x01abc", 0, maxInt, "", 0, api.ErrLimit}, {ff9 + "\x01abc", 0, -1, "", 0, api.ErrLimit}, {wire.Uint(1 << 63), 0, maxInt, "", 0, api.ErrLimit}, {wire.Uint(maxInt) + "abc", 0, maxInt, "", 0, api.ErrTruncated}, {wire.Uint(maxInt) + "abc", 0, maxInt - 1, "", 0, api.ErrLimit}, {"a" + wire.Uint(maxInt-9), 1, maxInt, "", 0, api.ErrTruncated},
	}
	for _, c := range cases {
		if s, next, e := wire.TakeText(c.s, c.at, c.most); s != c.want || next != c.next || e != c.e {
			t.Errorf("TakeText(%q, %d, %d) = %q, %d, %d; want %q, %d, %d", c.s, c.at, c.most, s, next, e, c.want, c.next, c.e)
		}
	}
}

// P4.5
func TestTakeCount(t *testing.T) {
	cases := []struct {
		s              string
		at, most, want int
		next           int
		e              api.Errno
	}{
		{"\x02ab", 0, 2, 2, 1, api.OK}, {"\x02abc", 0, 9, 2, 1, api.OK}, {"x\x02abc", 1, maxInt, 2, 2, api.OK}, {"\x00", 0, 0, 0, 1, api.OK}, {"\x00a", 0, 5, 0, 1, api.OK}, {"\x80\x01" + strings.Repeat("x", 128), 0, 128, 128, 2, api.OK},
		{"\x02ab", 0, 1, 0, 0, api.ErrLimit}, {"\x02ab", 0, 0, 0, 0, api.ErrLimit}, {"\x02ab", 0, -1, 0, 0, api.ErrLimit}, {"\x00", 0, -1, 0, 0, api.ErrLimit}, {"\x00", 0, minInt, 0, 0, api.ErrLimit}, {"\x80\x01" + strings.Repeat("x", 128), 0, 127, 0, 0, api.ErrLimit},
		{"\x03xy", 0, 9, 0, 0, api.ErrTruncated}, {"\x03xy", 0, 3, 0, 0, api.ErrTruncated}, {"\x01", 0, 1, 0, 0, api.ErrTruncated}, {"ab\x01", 2, 1, 0, 0, api.ErrTruncated}, {"\x80\x01" + strings.Repeat("x", 127), 0, 128, 0, 0, api.ErrTruncated},
		// The limit comes before the bytes that are missing.
		{"\x03xy", 0, 2, 0, 0, api.ErrLimit}, {"\x03xy", 0, -1, 0, 0, api.ErrLimit},
		// Numbers that no int is equal to, and that no sum of positions must overflow with.
		{ff9 + "\x01abc", 0, maxInt, 0, 0, api.ErrLimit}, {ff9 + "\x01abc", 0, -1, 0, 0, api.ErrLimit}, {wire.Uint(1 << 63), 0, maxInt, 0, 0, api.ErrLimit}, {wire.Uint(maxInt) + "abc", 0, maxInt, 0, 0, api.ErrTruncated}, {wire.Uint(maxInt) + "abc", 0, maxInt - 1, 0, 0, api.ErrLimit}, {"a" + wire.Uint(maxInt-9), 1, maxInt, 0, 0, api.ErrTruncated},
	}
	for _, c := range cases {
		if n, next, e := wire.TakeCount(c.s, c.at, c.most); n != c.want || next != c.next || e != c.e {
			t.Errorf("TakeCount(%.20q, %d, %d) = %d, %d, %d; want %d, %d, %d", c.s, c.at, c.most, n, next, e, c.want, c.next, c.e)
		}
	}
}

// counted returns the results of TakeCount by the rules of the chapter.
func counted(s string, at, most int) (int, int, api.Errno) {
	n, next, e := read(s, at)
	if e != api.OK {
		return 0, 0, e
	}
	number := new(big.Int).SetUint64(n)
	if number.Cmp(big.NewInt(int64(most))) > 0 {
		return 0, 0, api.ErrLimit
	}
	if number.Cmp(big.NewInt(int64(len(s)-next))) > 0 {
		return 0, 0, api.ErrTruncated
	}
	return int(n), next, api.OK
}

// P4.4 and P4.5
func TestTakeTextAndCountOfAllInputs(t *testing.T) {
	for _, s := range inputs() {
		for _, at := range positions(s) {
			for _, most := range []int{-1, 0, 1, 2, 127, maxInt} {
				want, start, errno := counted(s, at, most)
				if n, next, e := wire.TakeCount(s, at, most); n != want || next != start || e != errno {
					t.Fatalf("TakeCount(%q, %d, %d) = %d, %d, %d; want %d, %d, %d", s, at, most, n, next, e, want, start, errno)
				}
				if part, next, e := wire.TakeText(s, at, most); part != s[start:start+want] || next != start+want || e != errno {
					t.Fatalf("TakeText(%q, %d, %d) = %q, %d, %d; want %d bytes, error %d", s, at, most, part, next, e, want, errno)
				}
			}
		}
	}
}

// item is an encoding. Its function take decodes what stands at a position and tells whether it is the value that was encoded.
type item struct {
	name, encoding string
	take           func(s string, at int) (bool, int, api.Errno)
}

func uintItem(n uint64) item {
	return item{"Uint", wire.Uint(n), func(s string, at int) (bool, int, api.Errno) {
		v, next, e := wire.TakeUint(s, at)
		return v == n, next, e
	}}
}

func intItem(n int) item {
	return item{"Int", wire.Int(n), func(s string, at int) (bool, int, api.Errno) {
		v, next, e := wire.TakeInt(s, at)
		return v == n, next, e
	}}
}

func boolItem(b bool) item {
	return item{"Bool", wire.Bool(b), func(s string, at int) (bool, int, api.Errno) {
		v, next, e := wire.TakeBool(s, at)
		return v == b, next, e
	}}
}

func textItem(text string, most int) item {
	return item{"Text", wire.Text(text), func(s string, at int) (bool, int, api.Errno) {
		v, next, e := wire.TakeText(s, at, most)
		return v == text, next, e
	}}
}

// items returns encodings of all kinds.
func items() []item {
	list := []item{boolItem(true), boolItem(false)}
	for _, n := range numbers() {
		list = append(list, uintItem(n))
	}
	for _, n := range ints() {
		list = append(list, intItem(n))
	}
	for _, s := range texts() {
		list = append(list, textItem(s, len(s)), textItem(s, maxInt))
	}
	return list
}

// P4.6
func TestEncodedIsDecoded(t *testing.T) {
	around := []string{"", "\x00", "\x01", "\x7f", "\x80", "\xff", "ab", "\x80\x00", ff9, ff9 + "\x02", "é"}
	for _, c := range items() {
		for _, before := range around {
			for _, behind := range around {
				same, next, e := c.take(before+c.encoding+behind, len(before))
				if !same || next != len(before)+len(c.encoding) || e != api.OK {
					t.Fatalf("%s of %.20q behind %q and before %q: %v, %d, %d", c.name, c.encoding, before, behind, same, next, e)
				}
			}
		}
	}
}

// P4.6
func TestSequencesAreDecoded(t *testing.T) {
	list := items()
	list = slices.DeleteFunc(list, func(c item) bool { return len(c.encoding) > 1000 })
	rand.New(rand.NewSource(6)).Shuffle(len(list), func(i, j int) { list[i], list[j] = list[j], list[i] })
	var b strings.Builder
	for _, c := range list {
		b.WriteString(c.encoding)
	}
	at := 0
	for _, c := range list {
		same, next, e := c.take(b.String(), at)
		if !same || next != at+len(c.encoding) || e != api.OK {
			t.Fatalf("%s of %.20q at %d: %v, %d, %d", c.name, c.encoding, at, same, next, e)
		}
		at = next
	}
	if at != b.Len() {
		t.Errorf("%d bytes of %d are decoded", at, b.Len())
	}
}

// P4.6, for counts
func TestCountsAreDecoded(t *testing.T) {
	for n := range 300 {
		before, behind := strings.Repeat("\xff", n%3), strings.Repeat("\x80", n+n%2)
		v, next, e := wire.TakeCount(before+wire.Uint(uint64(n))+behind, len(before), n)
		if v != n || next != len(before)+len(wire.Uint(uint64(n))) || e != api.OK {
			t.Fatalf("TakeCount of %d before %d bytes = %d, %d, %d", n, len(behind), v, next, e)
		}
	}
}

// P4.7
func TestDecodedIsEncoded(t *testing.T) {
	check := func(name, s string, at, next int, e api.Errno, encoding string) {
		if e == api.OK && (next <= at || next > len(s) || s[at:next] != encoding) {
			t.Fatalf("%s of %q at %d has the encoding %q, but ends at %d", name, s, at, encoding, next)
		}
	}
	for _, s := range inputs() {
		for at := range len(s) + 1 {
			n, next, e := wire.TakeUint(s, at)
			check("TakeUint", s, at, next, e, wire.Uint(n))
			i, next, e := wire.TakeInt(s, at)
			check("TakeInt", s, at, next, e, wire.Int(i))
			b, next, e := wire.TakeBool(s, at)
			check("TakeBool", s, at, next, e, wire.Bool(b))
			text, next, e := wire.TakeText(s, at, maxInt)
			check("TakeText", s, at, next, e, wire.Text(text))
			count, next, e := wire.TakeCount(s, at, maxInt)
			check("TakeCount", s, at, next, e, wire.Uint(uint64(count)))
		}
	}
}

// P4.8
func TestBeginningsAreTruncated(t *testing.T) {
	for _, c := range items() {
		for _, before := range []string{"", "\x00", "\xff", "ab"} {
			// Of a long text, only the beginnings near its ends are tried.
			for size := 0; size < len(c.encoding); size++ {
				if size == 40 && len(c.encoding) > 80 {
					size = len(c.encoding) - 3
				}
				_, next, e := c.take(before+c.encoding[:size], len(before))
				if next != 0 || e != api.ErrTruncated {
					t.Fatalf("%s of the first %d bytes of %.20q behind %q: %d, %d; want ErrTruncated", c.name, size, c.encoding, before, next, e)
				}
			}
		}
	}
}

// P4.8, for counts
func TestBeginningsOfCountsAreTruncated(t *testing.T) {
	for _, s := range texts() {
		encoding := wire.Text(s)
		for _, size := range []int{0, 1, 2, len(encoding) / 2, len(encoding) - 1} {
			if size >= len(encoding) {
				continue
			}
			if n, next, e := wire.TakeCount(encoding[:size], 0, len(s)); n != 0 || next != 0 || e != api.ErrTruncated {
				t.Fatalf("TakeCount of %d bytes of %.20q = %d, %d, %d; want ErrTruncated", size, encoding, n, next, e)
			}
		}
	}
}

// P4.4 and P4.5: numbers are read in a time that does not grow with the text around them.
func TestLongTextsAreDecodedQuickly(t *testing.T) {
	s := strings.Repeat("\xac\x02", 500000)
	for at, next := 0, 0; at < len(s); at = next {
		var n uint64
		var e api.Errno
		if n, next, e = wire.TakeUint(s, at); n != 300 || next != at+2 || e != api.OK {
			t.Fatalf("TakeUint at %d = %d, %d, %d", at, n, next, e)
		}
	}
}
