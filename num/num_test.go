package num_test

import (
	"math"
	"math/big"
	"slices"
	"testing"

	"skylight/num"
)

// ints holds ints of every size, with both signs, and the edges.
func ints() []int {
	list := []int{0, math.MinInt, math.MinInt + 1, math.MaxInt, math.MaxInt - 1}
	for bit := range 63 {
		n := 1 << bit
		list = append(list, n, n-1, n+1, n/3, n/7*5, -n, -n-1, 1-n, -(n / 3), -(n / 7 * 5))
	}
	list = append(list, 3037000499, 3037000500, -3037000499, -3037000500)
	slices.Sort(list)
	return slices.Compact(list)
}

// bigs holds numbers of 64 bits of every size, and the edges.
func bigs() []uint64 {
	list := []uint64{0, math.MaxUint64, math.MaxUint64 - 1, math.MaxUint64 - 2, math.MaxUint32}
	for bit := range 64 {
		n := uint64(1) << bit
		list = append(list, n, n-1, n+1, n/3, n/7*5)
	}
	slices.Sort(list)
	return slices.Compact(list)
}

func of(n int) *big.Int       { return big.NewInt(int64(n)) }
func wide(n uint64) *big.Int  { return new(big.Int).SetUint64(n) }
func sum(a, b int) *big.Int   { return new(big.Int).Add(of(a), of(b)) }
func times(a, b int) *big.Int { return new(big.Int).Mul(of(a), of(b)) }

// held is an exact result as an int, or the bound that it passes.
func held(exact *big.Int) int {
	if exact.Cmp(of(math.MaxInt)) > 0 {
		return math.MaxInt
	}
	if exact.Cmp(of(math.MinInt)) < 0 {
		return math.MinInt
	}
	return int(exact.Int64())
}

// TestDivMod: P1.1, by cases.
func TestDivMod(t *testing.T) {
	const least, most = math.MinInt, math.MaxInt
	for _, c := range []struct{ a, b, div, mod int }{
		{-7, 2, -4, 1}, {7, 2, 3, 1}, {-8, 2, -4, 0}, {8, 2, 4, 0},
		{0, 5, 0, 0}, {-1, 5, -1, 4}, {4, 5, 0, 4}, {5, 5, 1, 0}, {-5, 5, -1, 0}, {-6, 5, -2, 4},
		{least, 1, least, 0}, {most, 1, most, 0}, {-1, most, -1, most - 1},
		{least, 2, -1 << 62, 0}, {least, most, -2, most - 1}, {least + 1, most, -1, 0},
		{most, most, 1, 0}, {most - 1, most, 0, most - 1}, {least, 3, -3074457345618258603, 1},
		{7, 0, 0, 0}, {-7, 0, 0, 0}, {0, 0, 0, 0}, {7, -2, 0, 0}, {-7, -2, 0, 0},
		{8, -1, 0, 0}, {least, -1, 0, 0}, {most, least, 0, 0}, {least, least, 0, 0},
	} {
		if got := num.Div(c.a, c.b); got != c.div {
			t.Errorf("Div(%d, %d) is %d, not %d", c.a, c.b, got, c.div)
		}
		if got := num.Mod(c.a, c.b); got != c.mod {
			t.Errorf("Mod(%d, %d) is %d, not %d", c.a, c.b, got, c.mod)
		}
	}
}

// TestDivModExact: P1.1, against exact numbers.
func TestDivModExact(t *testing.T) {
	list := ints()
	for _, a := range list {
		for _, b := range list {
			div, mod := new(big.Int), new(big.Int)
			if b >= 1 {
				// Of Euclid's division the rest is not below 0, so the quotient is rounded down.
				div.DivMod(of(a), of(b), mod)
			}
			if got := num.Div(a, b); div.Cmp(of(got)) != 0 {
				t.Fatalf("Div(%d, %d) is %d, not %s", a, b, got, div)
			}
			if got := num.Mod(a, b); mod.Cmp(of(got)) != 0 {
				t.Fatalf("Mod(%d, %d) is %d, not %s", a, b, got, mod)
			}
		}
	}
}

// TestHold: P1.1; of bounds in the wrong order, low comes first.
func TestHold(t *testing.T) {
	const least, most = math.MinInt, math.MaxInt
	for _, c := range []struct{ n, low, high, want int }{
		{5, 1, 3, 3}, {0, 1, 3, 1}, {2, 1, 3, 2}, {1, 1, 3, 1}, {3, 1, 3, 3},
		{-5, -3, -1, -3}, {0, -3, -1, -1}, {-2, -3, -1, -2}, {9, 4, 4, 4}, {3, 4, 4, 4},
		{least, -1, 1, -1}, {most, -1, 1, 1}, {least, least, most, least}, {most, least, most, most},
		{0, most, least, most}, {most, most, least, least}, {0, 3, 1, 3}, {2, 3, 1, 3}, {3, 3, 1, 1}, {5, 3, 1, 1},
	} {
		if got := num.Hold(c.n, c.low, c.high); got != c.want {
			t.Errorf("Hold(%d, %d, %d) is %d, not %d", c.n, c.low, c.high, got, c.want)
		}
	}
}

// TestPlusTimes: P1.2, by cases.
func TestPlusTimes(t *testing.T) {
	const least, most = math.MinInt, math.MaxInt
	for _, c := range []struct{ a, b, plus, times int }{
		{2, 3, 5, 6}, {-2, 3, 1, -6}, {-2, -3, -5, 6}, {0, 7, 7, 0}, {-7, 0, -7, 0},
		{most, 0, most, 0}, {most, 1, most, most}, {most, -1, most - 1, -most}, {most, most, most, most},
		{least, 0, least, 0}, {least, 1, least + 1, least}, {least, -1, least, most}, {least, least, least, most},
		{least, most, -1, least}, {most - 1, 1, most, most - 1}, {least + 1, -1, least, most},
		{1 << 62, 1 << 62, most, most}, {-1 << 62, -1 << 62, least, most},
		{1 << 62, 2, 1<<62 + 2, most}, {1 << 62, -2, 1<<62 - 2, least}, {-1 << 62, 2, 2 - 1<<62, least},
		{1 << 32, 1 << 32, 1 << 33, most}, {1 << 32, -1 << 32, 0, least}, {1 << 33, 1 << 31, 1<<33 + 1<<31, most},
		{3037000500, 3037000500, 6074001000, most}, {3037000500, -3037000500, 0, least},
		{3037000499, 3037000499, 6074000998, 9223372030926249001},
	} {
		if got := num.Plus(c.a, c.b); got != c.plus {
			t.Errorf("Plus(%d, %d) is %d, not %d", c.a, c.b, got, c.plus)
		}
		if got := num.Times(c.a, c.b); got != c.times {
			t.Errorf("Times(%d, %d) is %d, not %d", c.a, c.b, got, c.times)
		}
	}
}

// TestPlusTimesExact: P1.2, against exact numbers.
func TestPlusTimesExact(t *testing.T) {
	list := ints()
	for _, a := range list {
		for _, b := range list {
			if got, want := num.Plus(a, b), held(sum(a, b)); got != want {
				t.Fatalf("Plus(%d, %d) is %d, not %d", a, b, got, want)
			}
			if got, want := num.Times(a, b), held(times(a, b)); got != want {
				t.Fatalf("Times(%d, %d) is %d, not %d", a, b, got, want)
			}
		}
	}
}

// TestRoot: P1.3, by cases.
func TestRoot(t *testing.T) {
	for _, c := range []struct {
		n    uint64
		want int
	}{
		{0, 0}, {1, 1}, {2, 1}, {3, 1}, {4, 2}, {8, 2}, {9, 3}, {15, 3}, {16, 4}, {24, 4}, {25, 5},
		{1<<28 - 1, 1<<14 - 1}, {1 << 28, 1 << 14},
		{1<<62 - 1, 1<<31 - 1}, {1 << 62, 1 << 31}, {1<<63 - 1, 3037000499}, {1 << 63, 3037000499},
		{3037000500*3037000500 - 1, 3037000499}, {3037000500 * 3037000500, 3037000500},
		{math.MaxUint32*math.MaxUint32 - 1, math.MaxUint32 - 1}, {math.MaxUint32 * math.MaxUint32, math.MaxUint32},
		{math.MaxUint64 - 1, math.MaxUint32}, {math.MaxUint64, math.MaxUint32},
	} {
		if got := num.Root(c.n); got != c.want {
			t.Errorf("Root(%d) is %d, not %d", c.n, got, c.want)
		}
	}
}

// TestRootExact: P1.3, about squares of all sizes, against exact numbers.
func TestRootExact(t *testing.T) {
	list := bigs()
	for _, n := range bigs() {
		if n <= math.MaxUint32 {
			list = append(list, n*n-1, n*n, n*n+1, n*n+2*n)
		}
	}
	for n := range uint64(5000) {
		list = append(list, n, math.MaxUint64-n)
	}
	for _, n := range list {
		if got, want := num.Root(n), new(big.Int).Sqrt(wide(n)); want.Cmp(of(got)) != 0 {
			t.Fatalf("Root(%d) is %d, not %s", n, got, want)
		}
	}
}

// TestPart: P1.3, by cases.
func TestPart(t *testing.T) {
	const most = math.MaxUint64
	for _, c := range []struct {
		a, b, c, want uint64
		ok            bool
	}{
		{1 << 63, 10, 1 << 62, 20, true}, {7, 3, 2, 10, true}, {7, 3, 22, 0, true}, {7, 3, 21, 1, true},
		{0, 9, 4, 0, true}, {9, 0, 4, 0, true}, {0, 0, 1, 0, true}, {0, most, most, 0, true},
		{most, 1, 1, most, true}, {1, most, 1, most, true}, {most, most, most, most, true},
		{most, most, most - 1, 0, false}, {most, most - 2, most - 1, most - 2, true},
		{1 << 63, 2, 1, 0, false}, {1 << 63, 2, 2, 1 << 63, true}, {1 << 32, 1 << 32, 1, 0, false},
		{1 << 32, 1 << 32, 2, 1 << 63, true}, {1 << 32, 1<<32 - 1, 1, 1<<64 - 1<<32, true},
		{most, most, 1, 0, false}, {most, 255, most, 255, true}, {most - 1, 255, most, 254, true},
		{5, 6, 0, 0, false}, {0, 0, 0, 0, false}, {0, 5, 0, 0, false}, {most, most, 0, 0, false},
	} {
		if got, ok := num.Part(c.a, c.b, c.c); got != c.want || ok != c.ok {
			t.Errorf("Part(%d, %d, %d) is %d, %t, not %d, %t", c.a, c.b, c.c, got, ok, c.want, c.ok)
		}
	}
}

// TestPartExact: P1.3, against exact numbers.
func TestPartExact(t *testing.T) {
	list := bigs()
	for i, a := range list {
		for j := i % 3; j < len(list); j += 3 {
			product := new(big.Int).Mul(wide(a), wide(list[j]))
			for k := j % 5; k < len(list); k += 5 {
				checkPart(t, a, list[j], list[k], product)
			}
		}
	}
}

func checkPart(t *testing.T, a, b, c uint64, product *big.Int) {
	t.Helper()
	want, fits := new(big.Int), false
	if c > 0 {
		want.Div(product, wide(c))
		fits = want.IsUint64()
	}
	if !fits {
		want.SetUint64(0)
	}
	if got, ok := num.Part(a, b, c); ok != fits || got != want.Uint64() {
		t.Fatalf("Part(%d, %d, %d) is %d, %t, not %s, %t", a, b, c, got, ok, want, fits)
	}
}

// TestDivisionLaw: P1.4, a number is its divisor times the quotient plus the remainder.
func TestDivisionLaw(t *testing.T) {
	list := ints()
	for _, a := range list {
		for _, b := range list {
			if b < 1 {
				continue
			}
			rest := num.Mod(a, b)
			again := times(b, num.Div(a, b))
			if again.Add(again, of(rest)).Cmp(of(a)) != 0 || rest < 0 || rest >= b {
				t.Fatalf("%d is not %d times %d plus %d", a, b, num.Div(a, b), rest)
			}
		}
	}
}

// TestOrderOfArguments: P1.4, sums and products do not depend on it.
func TestOrderOfArguments(t *testing.T) {
	list := ints()
	for i, a := range list {
		for _, b := range list[i:] {
			if num.Plus(a, b) != num.Plus(b, a) {
				t.Fatalf("Plus of %d and %d depends on their order", a, b)
			}
			if num.Times(a, b) != num.Times(b, a) {
				t.Fatalf("Times of %d and %d depends on their order", a, b)
			}
		}
	}
}

// TestGreaterSums: P1.4, adding a greater number gives no lesser sum.
func TestGreaterSums(t *testing.T) {
	list := ints()
	for _, a := range list {
		for i := range len(list) - 1 {
			if num.Plus(a, list[i]) > num.Plus(a, list[i+1]) {
				t.Fatalf("%d plus %d is greater than plus %d", a, list[i], list[i+1])
			}
		}
	}
}
