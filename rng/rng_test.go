package rng_test

import (
	"hash/fnv"
	"math"
	"math/big"
	"math/rand"
	"slices"
	"strings"
	"testing"

	"skirmish/api"
	"skirmish/rng"
)

const (
	maxInt = math.MaxInt
	minInt = math.MinInt
	last   = math.MaxUint64
	golden = 0x9e3779b97f4a7c15

	// third is a little more than a third of 2^64, so that almost a third of all values is not accepted.
	third = 6148914691236517206
)

// states returns states at and around the edges, and others of all sizes.
func states() []uint64 {
	list := []uint64{0, 1, 2, 42, 1 << 32, 1<<63 - 1, 1 << 63, last - 1, last, golden, 7046029254386353131}
	random := rand.New(rand.NewSource(3))
	for range 200 {
		list = append(list, random.Uint64()>>random.Intn(64))
	}
	return list
}

// sizes returns numbers for Below: small ones, powers of two and their neighbors, and others of all sizes.
func sizes() []int {
	list := []int{1, 2, 3, 5, 6, 7, 10, 100, 255, 1000, third, third + 1, maxInt - 1, maxInt}
	for shift := 2; shift < 63; shift++ {
		list = append(list, 1<<shift-1, 1<<shift, 1<<shift+1)
	}
	random := rand.New(rand.NewSource(4))
	for range 100 {
		list = append(list, 1+random.Intn(maxInt)>>random.Intn(63))
	}
	return list
}

// step returns the value of a step and the next state by the rules of the chapter, in exact arithmetic.
func step(state uint64) (uint64, uint64) {
	t := modulo(new(big.Int).Add(large(state), large(golden)))
	z := multiplied(xorShifted(t, 30), 0xbf58476d1ce4e5b9)
	y := multiplied(xorShifted(z, 27), 0x94d049bb133111eb)
	return xorShifted(y, 31), t
}

func large(n uint64) *big.Int { return new(big.Int).SetUint64(n) }

// modulo returns n modulo 2^64.
func modulo(n *big.Int) uint64 {
	return new(big.Int).Mod(n, new(big.Int).Lsh(big.NewInt(1), 64)).Uint64()
}

func multiplied(a, b uint64) uint64 {
	return modulo(new(big.Int).Mul(large(a), large(b)))
}

func xorShifted(a uint64, shift uint) uint64 {
	return new(big.Int).Xor(large(a), new(big.Int).Rsh(large(a), shift)).Uint64()
}

// stateFor returns the state whose step has the value v: it carries out a step backwards.
func stateFor(v uint64) uint64 {
	y := xorUnshifted(v, 31)
	z := xorUnshifted(y*inverse(0x94d049bb133111eb), 27)
	t := xorUnshifted(z*inverse(0xbf58476d1ce4e5b9), 30)
	return t - golden
}

// xorUnshifted returns the number a of which v is a XOR (a >> shift).
func xorUnshifted(v uint64, shift uint) uint64 {
	a := v
	for range 64 / shift {
		a = v ^ a>>shift
	}
	return a
}

// inverse returns the number whose product with the odd number a is 1.
func inverse(a uint64) uint64 {
	b := a
	for range 6 {
		b *= 2 - a*b
	}
	return b
}

// accepted returns how many values Below accepts for n: 2^64 - (2^64 mod n).
func accepted(n int) *big.Int {
	all := new(big.Int).Lsh(big.NewInt(1), 64)
	rest := new(big.Int).Mod(all, big.NewInt(int64(n)))
	return all.Sub(all, rest)
}

// draw returns the results of Below by the rules of the chapter.
func draw(state uint64, n int) (int, uint64) {
	for {
		v, next := step(state)
		if large(v).Cmp(accepted(n)) < 0 {
			return int(new(big.Int).Mod(large(v), big.NewInt(int64(n))).Int64()), next
		}
		state = next
	}
}

// permuted returns the results of Shuffle by the rules of the chapter.
func permuted(state uint64, n int) ([]int, uint64) {
	var list []int
	for len(list) < n {
		list = append(list, len(list))
	}
	for i := n - 1; i >= 1; i-- {
		j, next := draw(state, i+1)
		list[i], list[j] = list[j], list[i]
		state = next
	}
	return list, state
}

// P3.1
func TestSeed(t *testing.T) {
	cases := []struct {
		s    string
		want uint64
	}{
		{"", 14695981039346656037}, {"a", 12638187200555641996}, {"foobar", 9625390261332436968}, {"units", 5438172753957130556},
		{"\x00", 12638153115695167455}, {"a\x00b", 16560467112517592754}, {"b\x00a", 18433029972867074650},
		// Bytes count, neither runes nor whether they are well formed.
		{"é", 775207407765167617}, {"日本", 1305338235904577169}, {"\xff\xfe", 763861547275929008},
	}
	for _, c := range cases {
		if h := rng.Seed(c.s); h != c.want {
			t.Errorf("Seed(%q) = %d, want %d", c.s, h, c.want)
		}
	}
}

// P3.1
func TestSeedOfAllBytes(t *testing.T) {
	texts := []string{strings.Repeat("x", 100000), strings.Repeat("\x00", 100)}
	for b := range 256 {
		texts = append(texts, string([]byte{byte(b)}), string([]byte{7, byte(b), 200}))
	}
	for _, s := range texts {
		h := fnv.New64a()
		h.Write([]byte(s))
		if n := rng.Seed(s); n != h.Sum64() {
			t.Fatalf("Seed(%.20q) = %d, want %d", s, n, h.Sum64())
		}
	}
}

// P3.2
func TestNext(t *testing.T) {
	cases := []struct{ state, value, next uint64 }{
		{0, 16294208416658607535, golden}, {golden, 7960286522194355700, 0x3c6ef372fe94f82a}, {0x3c6ef372fe94f82a, 487617019471545679, 0xdaa66d2c7ddf743f},
		{1, 10451216379200822465, golden + 1}, {1234567, 6457827717110365317, golden + 1234567}, {1 << 63, 5196802822362493915, 0x1e3779b97f4a7c15},
		// The state passes 2^64.
		{last, 16490336266968443936, golden - 1}, {7046029254386353131, 0, 0},
	}
	for _, c := range cases {
		if v, next := rng.Next(c.state); v != c.value || next != c.next {
			t.Errorf("Next(%d) = %d, %x; want %d, %x", c.state, v, next, c.value, c.next)
		}
	}
	for _, s := range states() {
		value, state := step(s)
		if v, next := rng.Next(s); v != value || next != state {
			t.Fatalf("Next(%d) = %d, %x; want %d, %x", s, v, next, value, state)
		}
	}
}

// P3.3
func TestBelow(t *testing.T) {
	cases := []struct {
		state uint64
		n     int
		want  int
		next  uint64
	}{
		{0, 1, 0, golden}, {0, 2, 1, golden}, {0, 3, 1, golden}, {0, 7, 2, golden}, {0, 10, 5, golden}, {0, 1000, 535, golden},
		{1, 100, 65, golden + 1}, {1234567, 6, 3, golden + 1234567}, {last, 1000, 936, golden - 1},
		{0, maxInt, 7070836379803831728, golden}, {5, 1 << 62, 2522925141726970714, golden + 5},
		// Several steps, until a value is accepted.
		{1, third, 4302301687964305259, golden + 1}, {0, third, 1811371830957838494, 0x3c6ef372fe94f82a},
		{9, third, 4894335158745139638, 15755400384260043848}, {412, third, 2755054535648007895, 13064056694810536474},
	}
	for _, c := range cases {
		if v, next, e := rng.Below(c.state, c.n); v != c.want || next != c.next || e != api.OK {
			t.Errorf("Below(%d, %d) = %d, %d, %d; want %d, %d", c.state, c.n, v, next, e, c.want, c.next)
		}
	}
	for _, s := range states() {
		for _, n := range sizes() {
			want, state := draw(s, n)
			if v, next, e := rng.Below(s, n); v != want || next != state || e != api.OK {
				t.Fatalf("Below(%d, %d) = %d, %d, %d; want %d, %d", s, n, v, next, e, want, state)
			}
		}
	}
}

// P3.3
func TestBelowOfNothing(t *testing.T) {
	for _, s := range []uint64{0, 7, last} {
		for _, n := range []int{0, -1, -2, -1000, -maxInt, minInt} {
			if v, next, e := rng.Below(s, n); v != 0 || next != 0 || e != api.ErrArg {
				t.Errorf("Below(%d, %d) = %d, %d, %d; want ErrArg", s, n, v, next, e)
			}
		}
	}
}

// P3.3
func TestBelowAtTheLastAcceptedValue(t *testing.T) {
	for _, n := range sizes() {
		end := new(big.Int).Sub(accepted(n), big.NewInt(1)).Uint64()
		s := stateFor(end)
		if v, next, e := rng.Below(s, n); v != n-1 || next != s+golden || e != api.OK {
			t.Fatalf("Below(%d, %d) = %d, %d, %d, but its first value is the last one that is accepted", s, n, v, next, e)
		}
		if end == last {
			continue
		}
		s = stateFor(end + 1)
		want, state := draw(s+golden, n)
		if v, next, e := rng.Below(s, n); v != want || next != state || e != api.OK {
			t.Fatalf("Below(%d, %d) = %d, %d, %d; want %d, %d, because its first value is not accepted", s, n, v, next, e, want, state)
		}
	}
}

// P3.6
func TestBelowIsFair(t *testing.T) {
	random := rand.New(rand.NewSource(5))
	for _, n := range sizes() {
		// The accepted values begin with 0 and are whole rounds of n, each of which has every result once.
		rounds, rest := new(big.Int).DivMod(accepted(n), big.NewInt(int64(n)), new(big.Int))
		if rest.Sign() != 0 {
			t.Fatalf("the values accepted for %d are not whole rounds", n)
		}
		for range 20 {
			round, want := new(big.Int).Rand(random, rounds), random.Intn(n)
			v := new(big.Int).Mul(round, big.NewInt(int64(n)))
			v.Add(v, big.NewInt(int64(want)))
			s := stateFor(v.Uint64())
			if got, next, e := rng.Below(s, n); got != want || next != s+golden || e != api.OK {
				t.Fatalf("Below(%d, %d) = %d, %d, %d; want %d for the value %v", s, n, got, next, e, want, v)
			}
		}
		for v := uint64(last); large(v).Cmp(accepted(n)) >= 0 && v > last-10; v-- {
			if s := stateFor(v); firstStepIsTaken(s, n) {
				t.Fatalf("Below(%d, %d) takes the value %d of an incomplete round", s, n, v)
			}
		}
	}
}

func firstStepIsTaken(state uint64, n int) bool {
	_, next, _ := rng.Below(state, n)
	return next == state+golden
}

// P3.4
func TestSplit(t *testing.T) {
	cases := []struct {
		state uint64
		name  string
		want  uint64
	}{
		{0, "", 14087677454934409008}, {0, "a", 6857225946766476583}, {5, "units", 9442677308383401343}, {last, "units", 11585229129940485147},
		// The state equals the hash of the name.
		{12638214688346347271, "x", 16294208416658607535},
	}
	for _, c := range cases {
		if n := rng.Split(c.state, c.name); n != c.want {
			t.Errorf("Split(%d, %q) = %d, want %d", c.state, c.name, n, c.want)
		}
	}
	for _, s := range states() {
		for _, name := range []string{"", "a", "map", "units", "é", "\xff\x00"} {
			h := fnv.New64a()
			h.Write([]byte(name))
			if want, _ := step(s ^ h.Sum64()); rng.Split(s, name) != want {
				t.Fatalf("Split(%d, %q) = %d, want %d", s, name, rng.Split(s, name), want)
			}
		}
	}
}

// P3.5
func TestShuffle(t *testing.T) {
	cases := []struct {
		state uint64
		list  []int
		next  uint64
	}{
		{9, nil, 9}, {5, []int{0}, 5}, {last, []int{0}, last},
		{0, []int{0, 1}, golden}, {0, []int{2, 0, 1}, 0x3c6ef372fe94f82a}, {0, []int{2, 3, 1, 4, 0}, 0x78dde6e5fd29f054},
		{last, []int{5, 4, 6, 2, 1, 3, 0}, 0xb54cda58fbbee87d}, {1, []int{4, 2, 8, 1, 9, 3, 0, 6, 7, 5}, 0x8ff34785799e5cbe},
		{1234567, []int{4, 2, 6, 15, 1, 14, 10, 16, 11, 8, 7, 12, 0, 5, 19, 13, 3, 9, 18, 17}, 0xbe1e08c4729a0c16},
	}
	for _, c := range cases {
		n := len(c.list)
		if list, next, e := rng.Shuffle(c.state, n); !slices.Equal(list, c.list) || next != c.next || e != api.OK {
			t.Errorf("Shuffle(%d, %d) = %v, %x, %d; want %v, %x", c.state, n, list, next, e, c.list, c.next)
		}
	}
}

// P3.5 and P3.7
func TestShufflePermutes(t *testing.T) {
	for _, n := range []int{0, 1, 2, 3, 4, 10, 31, 64, 256, 999, 1000} {
		for _, s := range states()[:40] {
			want, state := permuted(s, n)
			list, next, e := rng.Shuffle(s, n)
			if !slices.Equal(list, want) || next != state || e != api.OK {
				t.Fatalf("Shuffle(%d, %d) = %v, %x, %d; want %v, %x", s, n, list, next, e, want, state)
			}
			slices.Sort(list)
			for i, v := range list {
				if v != i {
					t.Fatalf("Shuffle(%d, %d) does not contain %d once", s, n, i)
				}
			}
		}
	}
}

// P3.5
func TestShuffleDrawsUntilAccepted(t *testing.T) {
	// No value is greater than last, and 3, 5 and 7 do not divide 2^64: the first value is not accepted for them.
	s := stateFor(last)
	for _, n := range []int{3, 5, 7, 1000} {
		want, state := permuted(s, n)
		if state != s+uint64(n)*golden {
			t.Fatalf("the permutation of %d should take one step more", n)
		}
		if list, next, e := rng.Shuffle(s, n); !slices.Equal(list, want) || next != state || e != api.OK {
			t.Errorf("Shuffle(%d, %d) = %v, %x, %d; want %v, %x", s, n, list, next, e, want, state)
		}
	}
}

// P3.5
func TestShuffleReachesAllPermutations(t *testing.T) {
	seen := map[[4]int]bool{}
	for s := range uint64(1000) {
		list, _, _ := rng.Shuffle(s, 4)
		seen[[4]int(list)] = true
	}
	if len(seen) != 24 {
		t.Errorf("Shuffle returns %d permutations of 4 numbers, not 24", len(seen))
	}
}

// P3.5
func TestShuffleLimits(t *testing.T) {
	cases := []struct {
		n int
		e api.Errno
	}{
		{-1, api.ErrArg}, {-1001, api.ErrArg}, {minInt, api.ErrArg}, {1001, api.ErrLimit}, {1 << 40, api.ErrLimit}, {maxInt, api.ErrLimit},
	}
	for _, c := range cases {
		if list, next, e := rng.Shuffle(9, c.n); len(list) != 0 || next != 0 || e != c.e {
			t.Errorf("Shuffle(9, %d) = %d elements, %d, %d; want error %d", c.n, len(list), next, e, c.e)
		}
	}
}

// P3.5
func TestShufflesShareNothing(t *testing.T) {
	a, _, _ := rng.Shuffle(1, 10)
	b, _, _ := rng.Shuffle(1, 10)
	want := slices.Clone(b)
	for i := range a {
		a[i] = -1
	}
	if !slices.Equal(b, want) {
		t.Errorf("a change of one permutation changes another one to %v", b)
	}
}
