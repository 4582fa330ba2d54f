package trig_test

import (
	"math"
	"math/big"
	"slices"
	"testing"

	"skylight/trig"
)

const (
	least   = math.MinInt
	most    = math.MaxInt
	circle  = 65536
	half    = 32768
	quarter = 16384
	radius  = 16384 // the greatest sine
)

// edges holds the quarters of circles about 0 and at both ends, and what is beside them.
func edges() []int {
	var list []int
	for i := range 17 {
		for beside := -2; beside <= 2; beside++ {
			list = append(list, (i-8)*quarter+beside)
		}
		for beside := range 3 {
			list = append(list, least+i*quarter+beside, most-i*quarter-beside)
		}
	}
	return append(list, 1<<31, 1<<32, -1<<31, -1<<32, 1<<62, -1<<62, 1<<62+5461, -1<<62-5461)
}

// turns holds every turn of the circle, those of the one before and of the one behind it, and the edges.
func turns() []int {
	list := edges()
	for h := -circle; h < 2*circle; h++ {
		list = append(list, h)
	}
	return list
}

func of(n int) *big.Int { return big.NewInt(int64(n)) }

// product is the exact product of numbers.
func product(list ...*big.Int) *big.Int {
	all := of(1)
	for _, n := range list {
		all.Mul(all, n)
	}
	return all
}

// sine is the sine of a turn of any size, by exact numbers.
func sine(turn *big.Int) int {
	// Euclid's rest is not below 0.
	h := new(big.Int).Mod(turn, of(circle))
	if h.Cmp(of(half)) >= 0 {
		return -sine(h.Sub(h, of(half)))
	}
	a := product(h, new(big.Int).Sub(of(half), h))
	divisor := product(of(5), of(half), of(half))
	divisor.Sub(divisor, product(of(4), a))
	part := product(of(16384), of(16), a)
	return int(part.Div(part, divisor).Int64())
}

// cosine is the sine of the turn plus a quarter circle, by exact numbers.
func cosine(turn *big.Int) int {
	return sine(new(big.Int).Add(turn, of(quarter)))
}

// cases holds turns with their cosines and sines, worked out by hand and by exact numbers.
func cases() []struct{ turn, cos, sin int } {
	return []struct{ turn, cos, sin int }{
		{0, 16384, 0}, {16384, 0, 16384}, {32768, -16384, 0}, {49152, 0, -16384}, {65536, 16384, 0},
		{1, 16383, 1}, {2, 16383, 3}, {3, 16383, 4}, {-1, 16383, -1}, {-2, 16383, -3},
		{16383, 1, 16383}, {16385, -1, 16383}, {32766, -16383, 3}, {32767, -16383, 1}, {32769, -16383, -1}, {32770, -16383, -3},
		{49151, -1, -16383}, {49153, 1, -16383}, {65534, 16383, -3}, {65535, 16383, -1}, {65537, 16383, 1},
		{4096, 15123, 6284}, {5461, 14170, 8191}, {8192, 11565, 11565}, {10922, 8192, 14169}, {10923, 8191, 14170}, {21845, -8191, 14170}, {24576, -11565, 11565},
		{40960, -11565, -11565}, {43690, -8192, -14169}, {57344, 11565, -11565},
		{-8192, 11565, -11565}, {-16383, 1, -16383}, {-16384, 0, -16384}, {-16385, -1, -16383},
		{-32767, -16383, -1}, {-32768, -16384, 0}, {-32769, -16383, 1}, {-49152, 0, 16384}, {-65535, 16383, 1}, {-65536, 16384, 0}, {-65537, 16383, -1},
		{81920, 0, 16384}, {98304, -16384, 0}, {131072, 16384, 0},
		{most, 16383, -1}, {most - 1, 16383, -3}, {most - 16383, 0, -16384}, {most - 16384, -1, -16383}, {most - 32767, -16384, 0}, {most - 49151, 0, 16384},
		{least, 16384, 0}, {least + 1, 16383, 1}, {least + 8192, 11565, 11565}, {least + 16384, 0, 16384}, {least + 32768, -16384, 0}, {least + 49152, 0, -16384},
	}
}

// TestSinCos: P5.1, by cases, with the chapter's examples: turns of a quarter, a half and about them, below 0, beyond a full circle, the least and the greatest int.
func TestSinCos(t *testing.T) {
	for _, c := range cases() {
		if got := trig.Sin(c.turn); got != c.sin {
			t.Errorf("Sin(%d) is %d, not %d", c.turn, got, c.sin)
		}
		if got := trig.Cos(c.turn); got != c.cos {
			t.Errorf("Cos(%d) is %d, not %d", c.turn, got, c.cos)
		}
	}
}

// TestBoth: P5.1, by cases: the cosine is the first.
func TestBoth(t *testing.T) {
	for _, c := range cases() {
		if cos, sin := trig.Both(c.turn); cos != c.cos || sin != c.sin {
			t.Errorf("Both(%d) is %d, %d, not %d, %d", c.turn, cos, sin, c.cos, c.sin)
		}
	}
}

// TestExact: P5.1, Sin, Cos, Both and Square of every turn of three circles and of the edges, against exact numbers.
func TestExact(t *testing.T) {
	for _, h := range turns() {
		wantCos, wantSin := cosine(of(h)), sine(of(h))
		if got := trig.Sin(h); got != wantSin {
			t.Fatalf("Sin(%d) is %d, not %d", h, got, wantSin)
		}
		if got := trig.Cos(h); got != wantCos {
			t.Fatalf("Cos(%d) is %d, not %d", h, got, wantCos)
		}
		if cos, sin := trig.Both(h); cos != wantCos || sin != wantSin {
			t.Fatalf("Both(%d) is %d, %d, not %d, %d", h, cos, sin, wantCos, wantSin)
		}
		if got, want := trig.Square(h), wantCos*wantCos+wantSin*wantSin; got != want {
			t.Fatalf("Square(%d) is %d, not %d", h, got, want)
		}
	}
}

// TestNear: P5.1, the numbers are sines and cosines indeed: Bhaskara's formula misses them by less than 1 in 600.
func TestNear(t *testing.T) {
	for h := range circle {
		sin, cos := math.Sincos(2 * math.Pi * float64(h) / circle)
		if miss := math.Abs(float64(trig.Sin(h)) - radius*sin); miss > radius/600 {
			t.Fatalf("Sin(%d) is %d, not about %f", h, trig.Sin(h), radius*sin)
		}
		if miss := math.Abs(float64(trig.Cos(h)) - radius*cos); miss > radius/600 {
			t.Fatalf("Cos(%d) is %d, not about %f", h, trig.Cos(h), radius*cos)
		}
	}
}

// TestSquare: P5.1, by cases.
func TestSquare(t *testing.T) {
	for _, c := range []struct{ turn, want int }{
		{0, 1 << 28}, {16384, 1 << 28}, {32768, 1 << 28}, {49152, 1 << 28}, {-16384, 1 << 28}, {65536, 1 << 28}, {least, 1 << 28},
		{1, 268402690}, {-1, 268402690}, {2, 268402698}, {3, 268402705}, {16383, 268402690}, {32769, 268402690}, {most, 268402690}, {least + 1, 268402690},
		{100, 268427970}, {4096, 268193785}, {5461, 267881381}, {8192, 267498450}, {10922, 267869425}, {43690, 267869425}, {-8192, 267498450},
	} {
		if got := trig.Square(c.turn); got != c.want {
			t.Errorf("Square(%d) is %d, not %d", c.turn, got, c.want)
		}
	}
}

// TestSteps: P5.1, by cases: an n of 1, n by which the circle can be divided, and n by which it can't.
func TestSteps(t *testing.T) {
	for _, c := range []struct {
		n    int
		want [][2]int
	}{
		{1, [][2]int{{16384, 0}}},
		{2, [][2]int{{16384, 0}, {-16384, 0}}},
		{3, [][2]int{{16384, 0}, {-8191, 14170}, {-8192, -14169}}},
		{4, [][2]int{{16384, 0}, {0, 16384}, {-16384, 0}, {0, -16384}}},
		{5, [][2]int{{16384, 0}, {5084, 15572}, {-13232, 9620}, {-13233, -9619}, {5083, -15573}}},
		{6, [][2]int{{16384, 0}, {8192, 14169}, {-8191, 14170}, {-16384, 0}, {-8192, -14169}, {8191, -14170}}},
		{7, [][2]int{{16384, 0}, {10201, 12787}, {-3671, 15968}, {-14745, 7118}, {-14745, -7116}, {-3672, -15968}, {10200, -12788}}},
		{8, [][2]int{{16384, 0}, {11565, 11565}, {0, 16384}, {-11565, 11565}, {-16384, 0}, {-11565, -11565}, {0, -16384}, {11565, -11565}}},
	} {
		if got := trig.Steps(c.n); !slices.Equal(got, c.want) {
			t.Errorf("Steps(%d) is %v, not %v", c.n, got, c.want)
		}
	}
}

// TestStepsMany: P5.1, some of the most steps, and of the most but one.
func TestStepsMany(t *testing.T) {
	for _, c := range []struct {
		n, place int
		want     [2]int
	}{
		{1024, 0, [2]int{16384, 0}}, {1024, 1, [2]int{16383, 102}}, {1024, 2, [2]int{16382, 204}}, {1024, 256, [2]int{0, 16384}}, {1024, 511, [2]int{-16383, 102}}, {1024, 512, [2]int{-16384, 0}}, {1024, 1022, [2]int{16382, -204}}, {1024, 1023, [2]int{16383, -102}},
		{1023, 0, [2]int{16384, 0}}, {1023, 1, [2]int{16383, 102}}, {1023, 511, [2]int{-16383, 52}}, {1023, 512, [2]int{-16383, -51}}, {1023, 1022, [2]int{16383, -103}},
	} {
		steps := trig.Steps(c.n)
		if len(steps) != c.n {
			t.Fatalf("Steps(%d) has %d", c.n, len(steps))
		}
		if got := steps[c.place]; got != c.want {
			t.Errorf("Steps(%d)[%d] is %v, not %v", c.n, c.place, got, c.want)
		}
	}
}

// TestStepsExact: P5.1, every step of every n from 1 to 1024.
func TestStepsExact(t *testing.T) {
	for n := 1; n <= 1024; n++ {
		steps := trig.Steps(n)
		if len(steps) != n {
			t.Fatalf("Steps(%d) has %d", n, len(steps))
		}
		for i, got := range steps {
			turn := new(big.Int).Div(product(of(i), of(circle)), of(n))
			if want := [2]int{cosine(turn), sine(turn)}; got != want {
				t.Fatalf("Steps(%d)[%d] is %v, not %v", n, i, got, want)
			}
		}
	}
}

// TestStepsNone: P5.1, an n of 0, below 0 and beyond 1024.
func TestStepsNone(t *testing.T) {
	for _, n := range []int{0, -1, -2, -3, -1024, -circle, least + 1, least, 1025, 1026, 2048, circle, 1 << 32, 1<<32 + 3, 1 << 62, most - 1, most} {
		if got := trig.Steps(n); got != nil {
			t.Errorf("Steps(%d) has %d", n, len(got))
		}
	}
}

// TestStepsApart: P5.1, an answer is its own: changing one changes no other.
func TestStepsApart(t *testing.T) {
	first := trig.Steps(5)
	want := slices.Clone(first)
	second := trig.Steps(5)
	clear(first)
	if !slices.Equal(second, want) || !slices.Equal(trig.Steps(5), want) {
		t.Errorf("Steps(5) changes with an answer that was given: %v, %v, not %v", second, trig.Steps(5), want)
	}
}

// TestMirrors: P5.2, a half circle more makes the negative, and a half circle minus the turn makes the same, for every turn. Ints wrap at a whole number of circles.
func TestMirrors(t *testing.T) {
	for _, h := range turns() {
		if got, want := trig.Sin(h+half), -trig.Sin(h); got != want {
			t.Fatalf("the sine of %d plus a half circle is %d, not %d", h, got, want)
		}
		if got, want := trig.Sin(half-h), trig.Sin(h); got != want {
			t.Fatalf("the sine of a half circle minus %d is %d, not %d", h, got, want)
		}
	}
}

// TestRising: P5.2, up to a quarter circle the sine never decreases; it goes from 0 to the radius.
func TestRising(t *testing.T) {
	for h := range quarter {
		if low, high := trig.Sin(h), trig.Sin(h+1); low > high {
			t.Fatalf("the sine of %d is %d, but that of %d is %d", h, low, h+1, high)
		}
	}
	if low, high := trig.Sin(0), trig.Sin(quarter); low != 0 || high != radius {
		t.Errorf("the sine goes from %d to %d", low, high)
	}
}

// TestSquareNear: P5.2, the sum of both squares is 2^28 but for a hundredth of it, for every turn.
func TestSquareNear(t *testing.T) {
	for _, h := range turns() {
		if miss := trig.Square(h) - 1<<28; 100*miss > 1<<28 || 100*miss < -1<<28 {
			t.Fatalf("Square(%d) differs from 2^28 by %d", h, miss)
		}
	}
}
