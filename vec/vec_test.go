package vec_test

import (
	"math"
	"math/big"
	"math/rand"
	"testing"

	"skirmish/api"
	"skirmish/vec"
)

const (
	maxInt = math.MaxInt
	minInt = math.MinInt
	bound  = 1 << 20
)

func at(x, y int) api.Vec { return api.Vec{X: x, Y: y} }

// edges are numbers at and around the bounds of values and of ints.
func edges() []int {
	list := []int{0}
	for _, n := range []int{1, 2, 7, 1000, bound - 1, bound, bound + 1, 2 * bound, 1 << 32, 1 << 40, maxInt} {
		list = append(list, n, -n)
	}
	return append(list, minInt)
}

// vectors returns vectors of edges, small ones, and others of all sizes.
func vectors() []api.Vec {
	random := rand.New(rand.NewSource(2))
	numbers := edges()
	var list []api.Vec
	for _, n := range numbers {
		list = append(list, at(n, 0), at(0, n), at(n, n), at(n, numbers[random.Intn(len(numbers))]))
	}
	for x := -2; x <= 2; x++ {
		for y := -2; y <= 2; y++ {
			list = append(list, at(x, y))
		}
	}
	for range 60 {
		list = append(list, at(int(random.Uint64())>>(1+random.Intn(63)), int(random.Uint64())>>(1+random.Intn(63))))
		list = append(list, at(random.Intn(2*bound)-bound, random.Intn(2*bound)-bound))
	}
	return list
}

// exact returns the nearest value of n, to be computed with.
func exact(n int) *big.Int { return big.NewInt(int64(nearest(n))) }

func nearest(n int) int {
	if n < -bound {
		return -bound
	}
	if n > bound {
		return bound
	}
	return n
}

// nearestExact returns the nearest value of a number of any size.
func nearestExact(n *big.Int) int {
	if n.IsInt64() {
		return nearest(int(n.Int64()))
	}
	return bound * n.Sign()
}

func nearestVec(a api.Vec) api.Vec { return at(nearest(a.X), nearest(a.Y)) }

func product(a, b *big.Int) *big.Int { return new(big.Int).Mul(a, b) }

// square returns the exact square distance of the nearest values of a and b.
func square(a, b api.Vec) *big.Int {
	x := new(big.Int).Sub(exact(b.X), exact(a.X))
	y := new(big.Int).Sub(exact(b.Y), exact(a.Y))
	return new(big.Int).Add(product(x, x), product(y, y))
}

// squareOf returns the exact square of the nearest value of n.
func squareOf(n int) *big.Int { return product(exact(n), exact(n)) }

// P2.1
func TestAddSub(t *testing.T) {
	cases := []struct{ a, b, sum, difference api.Vec }{
		{at(3, 4), at(1, -6), at(4, -2), at(2, 10)},
		{at(0, 0), at(0, 0), at(0, 0), at(0, 0)},
		{at(0, 0), at(5, -7), at(5, -7), at(-5, 7)},
		{at(-1, -2), at(-3, 9), at(-4, 7), at(2, -11)},
		{at(bound, 0), at(1, 0), at(bound, 0), at(bound-1, 0)},
		{at(0, bound), at(0, -1), at(0, bound-1), at(0, bound)},
		{at(-bound, 7), at(-1, 7), at(-bound, 14), at(1-bound, 0)},
		{at(bound-1, 1-bound), at(1, -1), at(bound, -bound), at(bound-2, 2-bound)},
		{at(bound, -bound), at(bound, -bound), at(bound, -bound), at(0, 0)},
		{at(bound, -bound), at(-bound, bound), at(0, 0), at(bound, -bound)},
		// Both arguments are replaced before they are combined.
		{at(2*bound, 0), at(-1, 0), at(bound-1, 0), at(bound, 0)},
		{at(2*bound, -2*bound), at(-2*bound, 2*bound), at(0, 0), at(bound, -bound)},
		{at(0, 1), at(0, 3*bound), at(0, bound), at(0, 1-bound)},
		{at(maxInt, minInt), at(maxInt, minInt), at(bound, -bound), at(0, 0)},
		{at(maxInt, minInt), at(minInt, maxInt), at(0, 0), at(bound, -bound)},
		{at(0, 0), at(minInt, maxInt), at(-bound, bound), at(bound, -bound)},
		{at(5, -5), at(minInt, minInt), at(5-bound, -bound), at(bound, bound-5)},
	}
	for _, c := range cases {
		if v := vec.Add(c.a, c.b); v != c.sum {
			t.Errorf("Add(%v, %v) = %v, want %v", c.a, c.b, v, c.sum)
		}
		if v := vec.Sub(c.a, c.b); v != c.difference {
			t.Errorf("Sub(%v, %v) = %v, want %v", c.a, c.b, v, c.difference)
		}
	}
}

// P2.1
func TestAddSubOfAllSizes(t *testing.T) {
	for _, a := range vectors() {
		for _, b := range vectors() {
			p, q := nearestVec(a), nearestVec(b)
			if v, want := vec.Add(a, b), nearestVec(at(p.X+q.X, p.Y+q.Y)); v != want {
				t.Fatalf("Add(%v, %v) = %v, want %v", a, b, v, want)
			}
			if v, want := vec.Sub(a, b), nearestVec(at(p.X-q.X, p.Y-q.Y)); v != want {
				t.Fatalf("Sub(%v, %v) = %v, want %v", a, b, v, want)
			}
		}
	}
}

// P2.1
func TestSide(t *testing.T) {
	cases := [][2]api.Vec{
		{at(3, 4), at(-4, 3)}, {at(0, 0), at(0, 0)}, {at(1, 0), at(0, 1)}, {at(0, 1), at(-1, 0)}, {at(-3, -5), at(5, -3)},
		{at(bound, -bound), at(bound, bound)}, {at(bound+1, 2), at(-2, bound)}, {at(2, -bound-1), at(bound, 2)},
		{at(minInt, maxInt), at(-bound, -bound)}, {at(maxInt, minInt), at(bound, bound)},
	}
	for _, c := range cases {
		if v := vec.Side(c[0]); v != c[1] {
			t.Errorf("Side(%v) = %v, want %v", c[0], v, c[1])
		}
	}
}

// P2.2
func TestDot(t *testing.T) {
	cases := []struct {
		a, b api.Vec
		want int
	}{
		{at(3, 4), at(1, -6), -21}, {at(0, 0), at(8, 9), 0}, {at(1, 0), at(0, 1), 0}, {at(-2, 3), at(-5, 7), 31}, {at(2, 0), at(5, 7), 10}, {at(0, 2), at(5, 7), 14},
		{at(bound, bound), at(bound, bound), 1 << 41}, {at(bound, bound), at(-bound, -bound), -1 << 41}, {at(bound, -bound), at(bound, bound), 0},
		{at(bound+1, 0), at(1, 0), bound}, {at(1, 0), at(bound+1, 0), bound}, {at(0, -bound-1), at(0, 1), -bound}, {at(0, 1), at(0, -bound-1), -bound},
		{at(maxInt, minInt), at(maxInt, minInt), 1 << 41}, {at(maxInt, maxInt), at(minInt, minInt), -1 << 41}, {at(minInt, 3), at(2, 5), 15 - 2*bound},
	}
	for _, c := range cases {
		if n := vec.Dot(c.a, c.b); n != c.want {
			t.Errorf("Dot(%v, %v) = %d, want %d", c.a, c.b, n, c.want)
		}
	}
	for _, a := range vectors() {
		for _, b := range vectors() {
			want := new(big.Int).Add(product(exact(a.X), exact(b.X)), product(exact(a.Y), exact(b.Y)))
			if n := vec.Dot(a, b); int64(n) != want.Int64() {
				t.Fatalf("Dot(%v, %v) = %d, want %v", a, b, n, want)
			}
		}
	}
}

// P2.2
func TestLengths(t *testing.T) {
	cases := []struct {
		a            api.Vec
		square, root int
	}{
		{at(0, 0), 0, 0}, {at(1, 0), 1, 1}, {at(0, -1), 1, 1}, {at(1, 1), 2, 1}, {at(-1, 1), 2, 1}, {at(2, 2), 8, 2}, {at(3, 0), 9, 3},
		{at(3, 4), 25, 5}, {at(-3, 4), 25, 5}, {at(3, -4), 25, 5}, {at(5, 12), 169, 13}, {at(7, 1), 50, 7}, {at(4, 8), 80, 8}, {at(30, 41), 2581, 50},
		{at(bound, 0), 1 << 40, bound}, {at(0, minInt), 1 << 40, bound}, {at(bound+1, 0), 1 << 40, bound},
		{at(bound, bound), 1 << 41, 1482910}, {at(maxInt, minInt), 1 << 41, 1482910}, {at(bound-1, 0), (bound - 1) * (bound - 1), bound - 1},
	}
	for _, c := range cases {
		if n := vec.Len2(c.a); n != c.square {
			t.Errorf("Len2(%v) = %d, want %d", c.a, n, c.square)
		}
		if n := vec.Len(c.a); n != c.root {
			t.Errorf("Len(%v) = %d, want %d", c.a, n, c.root)
		}
	}
	for _, a := range vectors() {
		want := square(api.Vec{}, a)
		if n := vec.Len2(a); int64(n) != want.Int64() {
			t.Fatalf("Len2(%v) = %d, want %v", a, n, want)
		}
		if n := vec.Len(a); int64(n) != new(big.Int).Sqrt(want).Int64() {
			t.Fatalf("Len(%v) = %d, whose square is not next to %v", a, n, want)
		}
	}
}

// P2.3
func TestPart(t *testing.T) {
	cases := []struct {
		a        api.Vec
		num, den int
		want     api.Vec
	}{
		{at(-7, 7), 1, 2, at(-3, 3)}, {at(-7, 7), -1, 2, at(3, -3)}, {at(-7, 7), 1, -2, at(3, -3)}, {at(-7, 7), -1, -2, at(-3, 3)},
		{at(9, -4), 2, 3, at(6, -2)}, {at(5, 6), 3, 2, at(7, 9)}, {at(5, 6), 1, 1, at(5, 6)}, {at(5, 6), 0, 3, at(0, 0)}, {at(0, 0), 4, 3, at(0, 0)}, {at(2, -2), 1, 3, at(0, 0)},
		// A division by zero, whatever is divided.
		{at(5, 6), 1, 0, at(0, 0)}, {at(5, 6), 0, 0, at(0, 0)}, {at(maxInt, minInt), minInt, 0, at(0, 0)},
		// Results beyond the bounds.
		{at(bound, -bound), 2, 1, at(bound, -bound)}, {at(3, -3), bound, 2, at(bound, -bound)}, {at(1, -2), bound, 1, at(bound, -bound)}, {at(bound, bound), bound, -1, at(-bound, -bound)},
		// The product is exact before it is divided.
		{at(bound, -bound), bound, bound, at(bound, -bound)}, {at(bound, 1-bound), bound - 1, bound, at(bound-1, 2-bound)}, {at(bound, 3), bound, maxInt, at(bound, 3)},
		// Arguments beyond the bounds.
		{at(2*bound, 4), 1, 2, at(bound/2, 2)}, {at(6, -7), 1 << 40, 1 << 50, at(6, -7)}, {at(6, -7), 1 << 40, bound / 2, at(12, -14)}, {at(6, -7), bound / 2, 1 << 40, at(3, -3)},
		{at(5, 5), minInt, minInt, at(5, 5)}, {at(5, 5), minInt, maxInt, at(-5, -5)}, {at(minInt, maxInt), 1, -1, at(bound, -bound)}, {at(minInt, maxInt), -1, 1, at(bound, -bound)},
	}
	for _, c := range cases {
		if v := vec.Part(c.a, c.num, c.den); v != c.want {
			t.Errorf("Part(%v, %d, %d) = %v, want %v", c.a, c.num, c.den, v, c.want)
		}
	}
}

// P2.3
func TestPartOfAllSizes(t *testing.T) {
	for _, a := range vectors() {
		for _, n := range edges() {
			for _, d := range edges() {
				want := api.Vec{}
				if d != 0 {
					want = at(exactPart(a.X, n, d), exactPart(a.Y, n, d))
				}
				if v := vec.Part(a, n, d); v != want {
					t.Fatalf("Part(%v, %d, %d) = %v, want %v", a, n, d, v, want)
				}
			}
		}
	}
}

// exactPart returns a component of Part.
func exactPart(x, n, d int) int {
	// Quo of package big rounds toward zero.
	return nearestExact(new(big.Int).Quo(product(exact(x), exact(n)), exact(d)))
}

// P2.4
func TestToward(t *testing.T) {
	cases := []struct {
		a, b  api.Vec
		speed int
		want  api.Vec
	}{
		{at(0, 0), at(30, 40), 10, at(6, 8)}, {at(100, -100), at(130, -60), 10, at(106, -92)}, {at(0, 0), at(-30, -40), 10, at(-6, -8)},
		{at(0, 0), at(30, 40), 49, at(29, 39)}, {at(0, 0), at(30, 40), 50, at(30, 40)}, {at(0, 0), at(30, 40), 51, at(30, 40)}, {at(0, 0), at(30, 40), 1000, at(30, 40)},
		// The length of the way is rounded up, the displacement toward zero.
		{at(0, 0), at(1, 1), 1, at(0, 0)}, {at(0, 0), at(1, 1), 2, at(1, 1)}, {at(0, 0), at(30, 41), 10, at(5, 8)}, {at(0, 0), at(-30, -41), 10, at(-5, -8)}, {at(7, 7), at(-23, 48), 10, at(2, 15)},
		{at(0, 0), at(5, 5), 7, at(4, 4)}, {at(0, 0), at(5, 5), 8, at(5, 5)}, {at(0, 0), at(-9, 0), 4, at(-4, 0)}, {at(0, 0), at(0, 9), 4, at(0, 4)},
		// No speed, and no way.
		{at(1, 2), at(9, 9), 0, at(1, 2)}, {at(1, 2), at(9, 9), -1, at(1, 2)}, {at(1, 2), at(9, 9), minInt, at(1, 2)}, {at(1, 2), at(1, 2), 0, at(1, 2)}, {at(1, 2), at(1, 2), 1, at(1, 2)},
		// Differences beyond the bounds are exact.
		{at(-bound, 0), at(bound, 0), bound, at(0, 0)}, {at(bound, 0), at(-bound, 0), bound, at(0, 0)}, {at(0, bound), at(0, -bound), bound - 1, at(0, 1)}, {at(-bound, 0), at(bound, 0), 1, at(1-bound, 0)},
		{at(-bound, 0), at(0, 0), bound, at(0, 0)}, {at(-bound, 0), at(1, 0), bound, at(0, 0)},
		// Arguments beyond the bounds.
		{at(-bound, 0), at(bound, 0), 1 << 40, at(0, 0)}, {at(-bound, 0), at(bound, 0), maxInt, at(0, 0)}, {at(0, 0), at(3, 4), maxInt, at(3, 4)},
		{at(maxInt, 0), at(minInt, 0), 5, at(bound-5, 0)}, {at(1<<40, 1), at(0, 0), 0, at(bound, 1)}, {at(2*bound, 0), at(bound, 0), 1, at(bound, 0)}, {at(0, 0), at(0, minInt), bound, at(0, -bound)}, {at(0, 5-bound), at(0, minInt), 9, at(0, -bound)},
	}
	for _, c := range cases {
		if v := vec.Toward(c.a, c.b, c.speed); v != c.want {
			t.Errorf("Toward(%v, %v, %d) = %v, want %v", c.a, c.b, c.speed, v, c.want)
		}
	}
}

// P2.4
func TestTowardOfAllSizes(t *testing.T) {
	for _, a := range vectors() {
		for _, b := range vectors() {
			for _, speed := range speeds(a, b) {
				if v, want := vec.Toward(a, b, speed), exactToward(a, b, speed); v != want {
					t.Fatalf("Toward(%v, %v, %d) = %v, want %v", a, b, speed, v, want)
				}
			}
		}
	}
}

// speeds returns speeds that are not enough, just enough, and more than enough for the way from a to b.
func speeds(a, b api.Vec) []int {
	n := int(new(big.Int).Sqrt(square(a, b)).Int64())
	return []int{minInt, -1, 0, 1, 2, 97, n / 2, n - 1, n, n + 1, bound, maxInt}
}

// exactToward returns Toward by the rules of the chapter.
func exactToward(a, b api.Vec, speed int) api.Vec {
	if speed <= 0 {
		return nearestVec(a)
	}
	distance := square(a, b)
	if distance.Cmp(squareOf(speed)) <= 0 {
		return nearestVec(b)
	}
	n := new(big.Int).Sqrt(distance)
	if product(n, n).Cmp(distance) < 0 {
		n.Add(n, big.NewInt(1))
	}
	move := func(from, to int) int {
		way := new(big.Int).Sub(exact(to), exact(from))
		return nearest(from) + int(way.Quo(product(way, exact(speed)), n).Int64())
	}
	return at(move(a.X, b.X), move(a.Y, b.Y))
}

// P2.5
func TestWithin(t *testing.T) {
	cases := []struct {
		a, b api.Vec
		r    int
		want bool
	}{
		{at(3, 4), at(3, 4), 0, true}, {at(3, 4), at(3, 4), -1, false}, {at(3, 4), at(3, 4), minInt, false}, {at(3, 4), at(3, 5), 0, false},
		{at(0, 0), at(3, 4), 5, true}, {at(0, 0), at(3, 4), 4, false}, {at(0, 0), at(3, 4), -5, false}, {at(0, 0), at(3, 4), 6, true}, {at(10, 10), at(7, 6), 5, true}, {at(10, 10), at(7, 5), 5, false},
		{at(0, 0), at(1, 1), 1, false}, {at(0, 0), at(1, 1), 2, true}, {at(-2, 0), at(2, 0), 4, true}, {at(-2, 0), at(2, 0), 3, false},
		// Differences beyond the bounds are exact.
		{at(-bound, 0), at(0, 0), bound, true}, {at(-bound, 0), at(1, 0), bound, false}, {at(-bound, 0), at(bound, 0), bound, false}, {at(0, bound), at(0, -bound), bound, false},
		// Arguments beyond the bounds.
		{at(-bound, 0), at(bound, 0), 1 << 40, false}, {at(0, bound), at(0, -bound), maxInt, false}, {at(0, 0), at(bound, 0), maxInt, true}, {at(0, 0), at(bound, 1), maxInt, false},
		{at(maxInt, minInt), at(bound, -bound), 0, true}, {at(bound+1, 0), at(bound+5, 0), 0, true}, {at(0, 0), at(2*bound, 0), bound, true}, {at(minInt, 0), at(maxInt, 0), maxInt, false},
	}
	for _, c := range cases {
		if w := vec.Within(c.a, c.b, c.r); w != c.want {
			t.Errorf("Within(%v, %v, %d) = %v", c.a, c.b, c.r, w)
		}
		if w := vec.Within(c.b, c.a, c.r); w != c.want {
			t.Errorf("Within(%v, %v, %d) = %v", c.b, c.a, c.r, w)
		}
	}
	for _, a := range vectors() {
		for _, b := range vectors() {
			for _, r := range speeds(a, b) {
				want := r >= 0 && square(a, b).Cmp(squareOf(r)) <= 0
				if w := vec.Within(a, b, r); w != want {
					t.Fatalf("Within(%v, %v, %d) = %v", a, b, r, w)
				}
			}
		}
	}
}

// P2.6
func TestValid(t *testing.T) {
	for _, n := range edges() {
		for _, m := range edges() {
			want := -bound <= n && n <= bound && -bound <= m && m <= bound
			if vec.Valid(at(n, m)) != want {
				t.Errorf("Valid(%v) = %v", at(n, m), !want)
			}
		}
	}
}

// P2.7
func TestResultsAreValid(t *testing.T) {
	check := func(name string, v api.Vec) {
		if !vec.Valid(v) || v != nearestVec(v) {
			t.Fatalf("%s returns %v", name, v)
		}
	}
	for _, a := range vectors() {
		check("Side", vec.Side(a))
		for _, b := range vectors() {
			check("Add", vec.Add(a, b))
			check("Sub", vec.Sub(a, b))
			check("Part", vec.Part(a, b.X, b.Y))
			check("Toward", vec.Toward(a, b, b.Y))
		}
	}
}

// P2.8
func TestStepsComeNearer(t *testing.T) {
	for _, a := range vectors() {
		for _, b := range vectors() {
			for _, speed := range speeds(a, b) {
				v := vec.Toward(a, b, speed)
				if speed > 0 && square(a, v).Cmp(squareOf(speed)) > 0 {
					t.Fatalf("Toward(%v, %v, %d) = %v is too far", a, b, speed, v)
				}
				if square(v, b).Cmp(square(a, b)) > 0 {
					t.Fatalf("Toward(%v, %v, %d) = %v goes away", a, b, speed, v)
				}
			}
		}
	}
}

// P2.9
func TestSideIsRightAngle(t *testing.T) {
	for _, a := range vectors() {
		if n := vec.Dot(a, vec.Side(a)); n != 0 {
			t.Fatalf("Dot(%v, Side) = %d", a, n)
		}
		if n := vec.Len2(vec.Side(a)); n != vec.Len2(a) {
			t.Fatalf("Len2(Side(%v)) = %d, want %d", a, n, vec.Len2(a))
		}
	}
}
