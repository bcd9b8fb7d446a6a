package num_test

import (
	"math/big"
	"strings"
	"testing"

	"skirmish/api"
	"skirmish/num"
)

// decimalText returns the decimal text of n by the rules of the chapter.
func decimalText(n *big.Int) string {
	s := new(big.Rat).SetFrac(n, large(api.Scale)).FloatString(8)
	return strings.TrimSuffix(strings.TrimRight(s, "0"), ".")
}

// P1.6 and P1.7
func TestDecimalTexts(t *testing.T) {
	cases := []struct {
		n int
		s string
	}{
		{0, "0"}, {256, "1"}, {512, "2"}, {2560, "10"}, {256000, "1000"}, {-256, "-1"}, {-25600, "-100"},
		{1, "0.00390625"}, {-1, "-0.00390625"}, {128, "0.5"}, {-128, "-0.5"}, {64, "0.25"}, {255, "0.99609375"}, {16, "0.0625"},
		{-257, "-1.00390625"}, {2688, "10.5"}, {384, "1.5"},
		{maxInt, "36028797018963967.99609375"}, {maxInt - 255, "36028797018963967"},
		{minInt, "-36028797018963968"}, {minInt + 1, "-36028797018963967.99609375"},
	}
	for _, c := range cases {
		if s := num.Format(c.n); s != c.s {
			t.Errorf("Format(%d) = %q, want %q", c.n, s, c.s)
		}
		if n, e := num.Parse(c.s); n != c.n || e != api.OK {
			t.Errorf("Parse(%q) = %d, %d; want %d", c.s, n, e, c.n)
		}
	}
}

// P1.6 and P1.12
func TestFormatAndBack(t *testing.T) {
	list := samples()
	for n := -3 * api.Scale; n <= 3*api.Scale; n++ {
		list = append(list, n)
	}
	for _, n := range list {
		s := num.Format(n)
		if want := decimalText(large(n)); s != want {
			t.Fatalf("Format(%d) = %q, want %q", n, s, want)
		}
		if m, e := num.Parse(s); m != n || e != api.OK {
			t.Fatalf("Parse(%q) = %d, %d; want %d", s, m, e, n)
		}
	}
}

// P1.7
func TestParseSyntax(t *testing.T) {
	cases := []string{
		"", "-", ".", "-.", "-0", "--0", "--1", "+1", "+0", "1-", "0-1",
		"00", "01", "-01", "00.5", "01.5", "007",
		"1.", "-1.", "0.", ".5", "-.5", "0.0", "-0.0", "1.0", "1.50", "-1.50", "1.500000000", "0.00000000",
		"0.1", "0.2", "1.3", "0.005", "0.00390624", "0.00390626", "0.99999999", "0.001953125", "1.003906250", "0.000000001", "0.12345678901234567890123",
		"1.5.5", "1..5", "1.-5", "1.+5", "1,5", "1.5-", "-1.5.",
		" 1", "1 ", "1 .5", "1. 5", "1e3", "0x10", "1_000", "1.2_5", "a", "1a", "1.a", "1.5a", "/", ":", "1.:", "1./", "\x00", "1\x00", "٣", "½", "\xff",
		"99999999999999999999999999.1", "36028797018963968.50", "-099999999999999999999999999", "99999999999999999999999999x", "99999999999999999999999999.",
		"0." + strings.Repeat("3", 20), "0." + strings.Repeat("0", 63) + "5", "-7." + strings.Repeat("5", 100000),
	}
	for _, s := range cases {
		if n, e := num.Parse(s); n != 0 || e != api.ErrSyntax {
			t.Errorf("Parse(%.40q) = %d, %d; want ErrSyntax", s, n, e)
		}
	}
}

// P1.7
func TestParseOverflow(t *testing.T) {
	cases := []string{
		"36028797018963968", "36028797018963968.00390625", "36028797018963968.5", "-36028797018963968.00390625", "-36028797018963969",
		"72057594037927935.99609375", "72057594037927936", "-72057594037927936", "18446744073709551616", "-18446744073709551616",
		"18446744073709551616.5", "99999999999999999999999999", "-99999999999999999999999999.75",
		"1" + strings.Repeat("0", 100000), "-" + strings.Repeat("9", 100000) + ".5",
	}
	for _, s := range cases {
		if n, e := num.Parse(s); n != 0 || e != api.ErrOverflow {
			t.Errorf("Parse(%.40q) = %d, %d; want ErrOverflow", s, n, e)
		}
	}
}

// P1.7
func TestParseBeyondInts(t *testing.T) {
	shift := new(big.Int).Lsh(big.NewInt(1), 64)
	for _, n := range samples() {
		for _, d := range []*big.Int{shift, new(big.Int).Neg(shift)} {
			m := new(big.Int).Add(large(n), d)
			if m.IsInt64() {
				continue
			}
			s := decimalText(m)
			if got, e := num.Parse(s); got != 0 || e != api.ErrOverflow {
				t.Fatalf("Parse(%q) = %d, %d; want ErrOverflow", s, got, e)
			}
		}
	}
}

// P1.12
func TestAcceptedTextsAreFormats(t *testing.T) {
	for _, s := range textsOver("-0125.", 7) {
		n, e := num.Parse(s)
		if e == api.OK && num.Format(n) != s {
			t.Fatalf("Parse(%q) = %d, whose text is %q", s, n, num.Format(n))
		}
		if e != api.OK && (n != 0 || e != api.ErrSyntax) {
			t.Fatalf("Parse(%q) = %d, %d", s, n, e)
		}
	}
	for _, n := range samples() {
		for _, s := range altered(num.Format(n)) {
			if m, e := num.Parse(s); e == api.OK && num.Format(m) != s {
				t.Fatalf("Parse(%q) = %d, whose text is %q", s, m, num.Format(m))
			}
		}
	}
}

// textsOver returns the texts of at most n of the characters.
func textsOver(characters string, n int) []string {
	all, last := []string{""}, []string{""}
	for range n {
		var next []string
		for _, s := range last {
			for i := range len(characters) {
				next = append(next, s+characters[i:i+1])
			}
		}
		all, last = append(all, next...), next
	}
	return all
}

// altered returns texts that differ from s by one character more, less, or changed.
func altered(s string) []string {
	var list []string
	for i := range len(s) + 1 {
		for _, c := range []string{"0", "5", "9", ".", "-", " "} {
			list = append(list, s[:i]+c+s[i:])
			if i < len(s) {
				list = append(list, s[:i]+c+s[i+1:])
			}
		}
		if i < len(s) {
			list = append(list, s[:i]+s[i+1:])
		}
	}
	return list
}
