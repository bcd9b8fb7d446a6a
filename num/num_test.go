package num_test

import (
	"math"
	"math/big"
	"math/rand"
	"testing"

	"skirmish/api"
	"skirmish/num"
)

const (
	maxInt = math.MaxInt
	minInt = math.MinInt
)

// samples returns ints at and around the edges, powers of two among them, and others of all sizes.
func samples() []int {
	var list []int
	for shift := range 64 {
		power := int(uint64(1) << shift)
		for d := -2; d <= 2; d++ {
			list = append(list, power+d, -power+d)
		}
	}
	for n := -600; n <= 600; n += 37 {
		list = append(list, n)
	}
	random := rand.New(rand.NewSource(1))
	for range 300 {
		list = append(list, int(random.Uint64())>>random.Intn(64))
	}
	return list
}

// floorDiv returns the floor of a / b for b > 0.
func floorDiv(a, b *big.Int) *big.Int {
	// Div of package big rounds so that the remainder is not negative, which is the floor if b > 0.
	return new(big.Int).Div(a, b)
}

func large(n int) *big.Int { return big.NewInt(int64(n)) }

// nearest returns the nearest int to n.
func nearest(n *big.Int) int {
	if n.IsInt64() {
		return int(n.Int64())
	}
	if n.Sign() < 0 {
		return minInt
	}
	return maxInt
}

// P1.1
func TestDiv(t *testing.T) {
	cases := []struct {
		a, b, q int
		e       api.Errno
	}{
		{7, 2, 3, api.OK}, {-7, 2, -4, api.OK}, {7, -2, -4, api.OK}, {-7, -2, 3, api.OK},
		{6, 2, 3, api.OK}, {-6, 2, -3, api.OK}, {6, -2, -3, api.OK}, {-6, -2, 3, api.OK},
		{0, 3, 0, api.OK}, {0, -3, 0, api.OK}, {1, 3, 0, api.OK}, {-1, 3, -1, api.OK}, {1, -3, -1, api.OK}, {-1, -3, 0, api.OK},
		{5, 0, 0, api.ErrArg}, {0, 0, 0, api.ErrArg}, {minInt, 0, 0, api.ErrArg},
		{minInt, -1, 0, api.ErrOverflow}, {minInt + 1, -1, maxInt, api.OK}, {maxInt, -1, -maxInt, api.OK},
		{minInt, 1, minInt, api.OK}, {minInt, minInt, 1, api.OK}, {minInt, maxInt, -2, api.OK}, {maxInt, minInt, -1, api.OK},
	}
	for _, c := range cases {
		if q, e := num.Div(c.a, c.b); q != c.q || e != c.e {
			t.Errorf("Div(%d, %d) = %d, %d; want %d, %d", c.a, c.b, q, e, c.q, c.e)
		}
	}
}

// P1.1
func TestDivIsFloor(t *testing.T) {
	for _, a := range samples() {
		for _, b := range samples() {
			if b == 0 || a == minInt && b == -1 {
				continue
			}
			x, y := large(a), large(b)
			if b < 0 {
				x.Neg(x)
				y.Neg(y)
			}
			want := int(floorDiv(x, y).Int64())
			if q, e := num.Div(a, b); q != want || e != api.OK {
				t.Fatalf("Div(%d, %d) = %d, %d; want %d", a, b, q, e, want)
			}
		}
	}
}

// P1.8
func TestDivRemainder(t *testing.T) {
	for _, a := range samples() {
		for _, b := range samples() {
			q, e := num.Div(a, b)
			if e != api.OK {
				continue
			}
			r := large(a)
			r.Sub(r, new(big.Int).Mul(large(q), large(b)))
			if b > 0 && (r.Sign() < 0 || r.Cmp(large(b)) >= 0) {
				t.Fatalf("Div(%d, %d) = %d leaves %v", a, b, q, r)
			}
			if b < 0 && (r.Sign() > 0 || r.Cmp(large(b)) <= 0) {
				t.Fatalf("Div(%d, %d) = %d leaves %v", a, b, q, r)
			}
		}
	}
}

// P1.2
func TestMul(t *testing.T) {
	cases := []struct {
		a, b, p int
		e       api.Errno
	}{
		{384, 384, 576, api.OK}, {-384, 384, -576, api.OK}, {-384, -384, 576, api.OK},
		{-1, 1, -1, api.OK}, {1, 1, 0, api.OK}, {-1, -1, 0, api.OK}, {-384, 1, -2, api.OK}, {16, -16, -1, api.OK}, {16, -17, -2, api.OK},
		{0, 0, 0, api.OK}, {0, minInt, 0, api.OK}, {maxInt, 0, 0, api.OK},
		{maxInt, 256, maxInt, api.OK}, {minInt, 256, minInt, api.OK}, {minInt, -256, maxInt, api.ErrOverflow}, {maxInt, -256, -maxInt, api.OK},
		{maxInt, 257, maxInt, api.ErrOverflow}, {maxInt, 512, maxInt, api.ErrOverflow}, {minInt, 257, minInt, api.ErrOverflow},
		{maxInt, -257, minInt, api.ErrOverflow}, {minInt, -257, maxInt, api.ErrOverflow},
		{maxInt, maxInt, maxInt, api.ErrOverflow}, {minInt, minInt, maxInt, api.ErrOverflow}, {minInt, maxInt, minInt, api.ErrOverflow},
		{1 << 36, 1 << 35, maxInt, api.ErrOverflow}, {1 << 36, -1 << 35, minInt, api.OK}, {1 << 40, -1 << 40, minInt, api.ErrOverflow},
	}
	for _, c := range cases {
		if p, e := num.Mul(c.a, c.b); p != c.p || e != c.e {
			t.Errorf("Mul(%d, %d) = %d, %d; want %d, %d", c.a, c.b, p, e, c.p, c.e)
		}
	}
}

// P1.2
func TestMulIsFloorOrNearest(t *testing.T) {
	for _, a := range samples() {
		for _, b := range samples() {
			exact := floorDiv(new(big.Int).Mul(large(a), large(b)), large(api.Scale))
			want, wantErr := nearest(exact), api.OK
			if !exact.IsInt64() {
				wantErr = api.ErrOverflow
			}
			if p, e := num.Mul(a, b); p != want || e != wantErr {
				t.Fatalf("Mul(%d, %d) = %d, %d; want %d, %d", a, b, p, e, want, wantErr)
			}
		}
	}
}

// P1.9
func TestMulOrderAndScale(t *testing.T) {
	for _, a := range samples() {
		for _, b := range samples() {
			p, e := num.Mul(a, b)
			if q, f := num.Mul(b, a); p != q || e != f {
				t.Fatalf("Mul(%d, %d) = %d, %d, in the other order %d, %d", a, b, p, e, q, f)
			}
		}
		if p, e := num.Mul(a, api.Scale); p != a || e != api.OK {
			t.Fatalf("Mul(%d, Scale) = %d, %d", a, p, e)
		}
	}
}

// P1.3
func TestIsqrt(t *testing.T) {
	const root = 3037000499 // of MaxInt
	cases := [][2]int{
		{minInt, 0}, {-5, 0}, {-1, 0}, {0, 0}, {1, 1}, {2, 1}, {3, 1}, {4, 2}, {8, 2}, {9, 3}, {10, 3}, {15, 3}, {16, 4},
		{99, 9}, {100, 10}, {root*root - 1, root - 1}, {root * root, root}, {root*root + 1, root}, {maxInt, root},
		{1<<62 - 1, 1<<31 - 1}, {1 << 62, 1 << 31},
	}
	for _, c := range cases {
		if r := num.Isqrt(c[0]); r != c[1] {
			t.Errorf("Isqrt(%d) = %d, want %d", c[0], r, c[1])
		}
	}
}

// P1.3 and P1.10
func TestIsqrtIsGreatest(t *testing.T) {
	list := samples()
	for n := range 5000 {
		list = append(list, n)
	}
	for _, s := range samples() {
		if s > 0 && s <= 3037000499 {
			list = append(list, s*s-1, s*s, s*s+1)
		}
	}
	for _, n := range list {
		if n < 0 {
			continue
		}
		r := num.Isqrt(n)
		if r < 0 || large(n).Cmp(new(big.Int).Mul(large(r), large(r))) < 0 {
			t.Fatalf("Isqrt(%d) = %d, whose square is greater", n, r)
		}
		if large(n).Cmp(new(big.Int).Mul(large(r+1), large(r+1))) >= 0 {
			t.Fatalf("Isqrt(%d) = %d, but %d is not too great", n, r, r+1)
		}
	}
}

// P1.4
func TestClamp(t *testing.T) {
	cases := [][4]int{
		{5, 1, 3, 3}, {-5, 1, 3, 1}, {2, 1, 3, 2}, {1, 1, 3, 1}, {3, 1, 3, 3}, {7, 4, 4, 4},
		{2, 9, 3, 9}, {5, 9, 3, 9}, {20, 9, 3, 9}, {-20, 9, 3, 9},
		{minInt, minInt, maxInt, minInt}, {maxInt, minInt, maxInt, maxInt}, {0, maxInt, minInt, maxInt},
	}
	for _, c := range cases {
		if n := num.Clamp(c[0], c[1], c[2]); n != c[3] {
			t.Errorf("Clamp(%d, %d, %d) = %d, want %d", c[0], c[1], c[2], n, c[3])
		}
	}
}

// P1.5
func TestCell(t *testing.T) {
	cases := [][2]int{
		{0, 0}, {1, 0}, {255, 0}, {256, 1}, {511, 1}, {512, 2}, {-1, -1}, {-255, -1}, {-256, -1}, {-257, -2},
		{maxInt, 1<<55 - 1}, {minInt, -1 << 55}, {minInt + 255, -1 << 55}, {minInt + 256, -1<<55 + 1},
	}
	for _, c := range cases {
		if n := num.Cell(c[0]); n != c[1] {
			t.Errorf("Cell(%d) = %d, want %d", c[0], n, c[1])
		}
	}
	for _, x := range samples() {
		if c := num.Cell(x); int64(c) != floorDiv(large(x), large(api.Scale)).Int64() {
			t.Fatalf("Cell(%d) = %d", x, c)
		}
	}
}

// P1.5
func TestCenter(t *testing.T) {
	cases := [][2]int{
		{0, 128}, {1, 384}, {-1, -128}, {-2, -384},
		{1<<55 - 1, maxInt - 127}, {1 << 55, maxInt}, {1<<55 + 1, maxInt}, {maxInt, maxInt},
		{-1 << 55, minInt + 128}, {-1<<55 - 1, minInt}, {minInt, minInt},
	}
	for _, c := range cases {
		if n := num.Center(c[0]); n != c[1] {
			t.Errorf("Center(%d) = %d, want %d", c[0], n, c[1])
		}
	}
	for _, c := range samples() {
		if n := num.Center(c); n != nearest(exactCenter(c)) {
			t.Fatalf("Center(%d) = %d", c, n)
		}
	}
}

// exactCenter returns c * Scale + Scale / 2.
func exactCenter(c int) *big.Int {
	n := new(big.Int).Mul(large(c), large(api.Scale))
	return n.Add(n, large(api.Scale/2))
}

// P1.11
func TestCellOfCenter(t *testing.T) {
	for _, c := range samples() {
		if exactCenter(c).IsInt64() && num.Cell(num.Center(c)) != c {
			t.Fatalf("Cell(Center(%d)) = %d", c, num.Cell(num.Center(c)))
		}
	}
}

// P1.11
func TestCellNeverDecreases(t *testing.T) {
	for _, x := range samples() {
		if x < maxInt && num.Cell(x) > num.Cell(x+1) {
			t.Fatalf("Cell decreases after %d", x)
		}
		for _, y := range samples() {
			if x < y && num.Cell(x) > num.Cell(y) {
				t.Fatalf("Cell(%d) = %d, but Cell(%d) = %d", x, num.Cell(x), y, num.Cell(y))
			}
		}
	}
}
