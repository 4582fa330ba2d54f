package wide_test

import (
	"math"
	"math/big"
	"math/bits"
	"slices"
	"testing"

	"skylight/wide"
)

const (
	least = math.MinInt
	most  = math.MaxInt
	full  = math.MaxUint64
)

// ints holds ints of every size, with both signs, and the edges.
func ints() []int {
	list := []int{0, least, least + 1, most, most - 1}
	for bit := range 63 {
		n := 1 << bit
		list = append(list, n, n-1, n+1, n/7*5, -n, -n-1, 1-n, -(n / 7 * 5))
	}
	slices.Sort(list)
	return slices.Compact(list)
}

// edges holds ints about 0, about halves and about both ends.
func edges() []int {
	return []int{
		least, least + 1, least + 2, -1 << 62, -1<<32 - 1, -1 << 32, -12345, -3, -2, -1, 0, 1, 2, 3,
		12345, 1<<31 - 1, 1 << 31, 1<<32 - 1, 1 << 32, 1 << 62, 6148914691236517205, most - 2, most - 1, most,
	}
}

// wides holds numbers of 128 bits about every edge of their halves.
func wides() []wide.Wide {
	var list []wide.Wide
	for _, hi := range edges() {
		for _, lo := range []uint64{0, 1, 2, 1<<32 - 1, 1 << 32, 1<<63 - 1, 1 << 63, 1<<63 + 1, 0x5555555555555555, full - 1, full} {
			list = append(list, wide.Wide{Hi: hi, Lo: lo})
		}
	}
	return list
}

func of(n int) *big.Int            { return big.NewInt(int64(n)) }
func up(n uint64) *big.Int         { return new(big.Int).SetUint64(n) }
func sum(a, b *big.Int) *big.Int   { return new(big.Int).Add(a, b) }
func times(a, b *big.Int) *big.Int { return new(big.Int).Mul(a, b) }

// exact is a wide number: Hi times 2^64 plus Lo.
func exact(a wide.Wide) *big.Int {
	n := new(big.Int).Lsh(of(a.Hi), 64)
	return n.Add(n, up(a.Lo))
}

// wrapped is an exact number, wrapped into 128 bits.
func wrapped(n *big.Int) *big.Int {
	all := new(big.Int).Lsh(of(1), 128)
	n = new(big.Int).Mod(n, all)
	if n.Bit(127) == 1 {
		n.Sub(n, all)
	}
	return n
}

// shrunk is an exact number from 0 to 2^127 - 1 as a wide one.
func shrunk(n *big.Int) wide.Wide {
	hi := new(big.Int).Rsh(n, 64)
	lo := new(big.Int).Sub(n, new(big.Int).Lsh(hi, 64))
	return wide.Wide{Hi: int(hi.Int64()), Lo: lo.Uint64()}
}

// TestOf: P2.1, by cases and against exact numbers.
func TestOf(t *testing.T) {
	for _, c := range []struct {
		n    int
		want wide.Wide
	}{
		{0, wide.Wide{}}, {1, wide.Wide{0, 1}}, {-1, wide.Wide{-1, full}}, {-2, wide.Wide{-1, full - 1}},
		{most, wide.Wide{0, 1<<63 - 1}}, {least, wide.Wide{-1, 1 << 63}},
	} {
		if got := wide.Of(c.n); got != c.want {
			t.Errorf("Of(%d) is %v, not %v", c.n, got, c.want)
		}
	}
	for _, n := range ints() {
		if got := wide.Of(n); exact(got).Cmp(of(n)) != 0 {
			t.Errorf("Of(%d) is %v", n, got)
		}
	}
}

// TestMul: P2.1, by cases, with the chapter's example.
func TestMul(t *testing.T) {
	for _, c := range []struct {
		a, b int
		want wide.Wide
	}{
		{1 << 62, 4, wide.Wide{1, 0}}, {4, 1 << 62, wide.Wide{1, 0}}, {-1 << 62, 4, wide.Wide{-1, 0}},
		{1 << 62, -4, wide.Wide{-1, 0}}, {-1 << 62, -4, wide.Wide{1, 0}},
		{6, 7, wide.Wide{0, 42}}, {-6, 7, wide.Wide{-1, full - 41}}, {6, -7, wide.Wide{-1, full - 41}}, {-6, -7, wide.Wide{0, 42}},
		{0, 0, wide.Wide{}}, {0, least, wide.Wide{}}, {most, 0, wide.Wide{}}, {0, -1, wide.Wide{}},
		{least, 1, wide.Wide{-1, 1 << 63}}, {least, -1, wide.Wide{0, 1 << 63}}, {-1, least, wide.Wide{0, 1 << 63}},
		{least, 2, wide.Wide{-1, 0}}, {least, -2, wide.Wide{1, 0}},
		{least, least, wide.Wide{1 << 62, 0}}, {most, most, wide.Wide{1<<62 - 1, 1}},
		{least, most, wide.Wide{-1 << 62, 1 << 63}}, {most, least, wide.Wide{-1 << 62, 1 << 63}},
	} {
		if got := wide.Mul(c.a, c.b); got != c.want {
			t.Errorf("Mul(%d, %d) is %v, not %v", c.a, c.b, got, c.want)
		}
	}
}

// TestMulExact: P2.1, against exact numbers; it never wraps.
func TestMulExact(t *testing.T) {
	list := ints()
	for _, a := range list {
		for _, b := range list {
			if got, want := wide.Mul(a, b), times(of(a), of(b)); exact(got).Cmp(want) != 0 {
				t.Fatalf("Mul(%d, %d) is %v, not %s", a, b, got, want)
			}
		}
	}
}

// TestAddSub: P2.1, by cases: carries, borrows, and what wraps beyond 2^127 - 1 and -2^127.
func TestAddSub(t *testing.T) {
	type w = wide.Wide
	for _, c := range []struct{ a, b, add, sub w }{
		{w{0, 5}, w{0, 3}, w{0, 8}, w{0, 2}},
		{w{0, 3}, w{0, 5}, w{0, 8}, w{-1, full - 1}},
		{w{0, full}, w{0, 1}, w{1, 0}, w{0, full - 1}},
		{w{1, 0}, w{0, 1}, w{1, 1}, w{0, full}},
		{w{0, full}, w{0, full}, w{1, full - 1}, w{}},
		{w{-1, full}, w{0, 1}, w{}, w{-1, full - 1}},
		{w{-1, full}, w{-1, full}, w{-1, full - 1}, w{}},
		{w{}, w{-1, full}, w{-1, full}, w{0, 1}},
		{w{}, w{}, w{}, w{}},
		{w{3, 7}, w{-5, 9}, w{-2, 16}, w{7, full - 1}},
		{w{most, full}, w{0, 1}, w{least, 0}, w{most, full - 1}},
		{w{most, full}, w{-1, full}, w{most, full - 1}, w{least, 0}},
		{w{least, 0}, w{0, 1}, w{least, 1}, w{most, full}},
		{w{least, 0}, w{-1, full}, w{most, full}, w{least, 1}},
		{w{least, 0}, w{least, 0}, w{}, w{}},
		{w{most, full}, w{most, full}, w{-1, full - 1}, w{}},
		{w{most, full}, w{least, 0}, w{-1, full}, w{-1, full}},
		{w{}, w{least, 0}, w{least, 0}, w{least, 0}},
	} {
		if got := wide.Add(c.a, c.b); got != c.add {
			t.Errorf("Add(%v, %v) is %v, not %v", c.a, c.b, got, c.add)
		}
		if got := wide.Sub(c.a, c.b); got != c.sub {
			t.Errorf("Sub(%v, %v) is %v, not %v", c.a, c.b, got, c.sub)
		}
	}
}

// TestAddSubExact: P2.1, against exact numbers, wrapped.
func TestAddSubExact(t *testing.T) {
	list := wides()
	for _, a := range list {
		for _, b := range list {
			if got, want := wide.Add(a, b), wrapped(sum(exact(a), exact(b))); exact(got).Cmp(want) != 0 {
				t.Fatalf("Add(%v, %v) is %v, not %s", a, b, got, want)
			}
			if got, want := wide.Sub(a, b), wrapped(new(big.Int).Sub(exact(a), exact(b))); exact(got).Cmp(want) != 0 {
				t.Fatalf("Sub(%v, %v) is %v, not %s", a, b, got, want)
			}
		}
	}
}

// TestCmp: P2.1, against exact numbers: the upper half decides with its sign, the lower one without.
func TestCmp(t *testing.T) {
	type w = wide.Wide
	for _, c := range []struct {
		a, b w
		want int
	}{
		{w{}, w{}, 0}, {w{0, 1}, w{0, 2}, -1}, {w{0, 2}, w{0, 1}, 1}, {w{0, full}, w{0, 1}, 1}, {w{-1, full}, w{0, 0}, -1},
		{w{0, 0}, w{-1, full}, 1}, {w{-1, 0}, w{-1, full}, -1}, {w{1, 0}, w{0, full}, 1}, {w{0, full}, w{1, 0}, -1},
		{w{least, 0}, w{most, full}, -1}, {w{most, full}, w{least, 0}, 1}, {w{least, 7}, w{least, 7}, 0},
	} {
		if got := wide.Cmp(c.a, c.b); got != c.want {
			t.Errorf("Cmp(%v, %v) is %d, not %d", c.a, c.b, got, c.want)
		}
	}
	list := wides()
	for _, a := range list {
		for _, b := range list {
			if got, want := wide.Cmp(a, b), exact(a).Cmp(exact(b)); got != want {
				t.Fatalf("Cmp(%v, %v) is %d, not %d", a, b, got, want)
			}
		}
	}
}

// TestRoot: P2.2, by cases: numbers below 0, within a half, beyond 2^63, and up to 2^127 - 1.
func TestRoot(t *testing.T) {
	type w = wide.Wide
	const greatest = 13043817825332782212 // of 2^127
	square := func(n uint64) w { hi, lo := bits.Mul64(n, n); return w{int(hi), lo} }
	for _, c := range []struct {
		a    w
		want uint64
		ok   bool
	}{
		{w{}, 0, true}, {w{0, 1}, 1, true}, {w{0, 3}, 1, true}, {w{0, 4}, 2, true}, {w{0, 24}, 4, true}, {w{0, 25}, 5, true},
		{w{0, 1<<62 - 1}, 1<<31 - 1, true}, {w{0, 1 << 62}, 1 << 31, true},
		{w{0, 1<<63 - 1}, 3037000499, true}, {w{0, 1 << 63}, 3037000499, true}, {w{0, 1<<63 + 1}, 3037000499, true},
		{w{0, full}, 1<<32 - 1, true}, {w{1, 0}, 1 << 32, true}, {w{1, 1 << 33}, 1 << 32, true}, {w{1, 1<<33 + 1}, 1<<32 + 1, true},
		{w{3, full}, 1<<33 - 1, true}, {w{4, 0}, 1 << 33, true},
		{w{1<<62 - 1, full}, 1<<63 - 1, true}, {w{1 << 62, 0}, 1 << 63, true}, {wide.Sub(square(1<<63+1), w{0, 1}), 1 << 63, true},
		{square(greatest), greatest, true}, {wide.Sub(square(greatest), w{0, 1}), greatest - 1, true}, {w{most, full}, greatest, true},
		{w{-1, full}, 0, false}, {w{-1, 0}, 0, false}, {w{least, 0}, 0, false}, {w{least, full}, 0, false}, {wide.Of(-4), 0, false},
	} {
		if got, ok := wide.Root(c.a); got != c.want || ok != c.ok {
			t.Errorf("Root(%v) is %d, %t, not %d, %t", c.a, got, ok, c.want, c.ok)
		}
	}
}

// TestRootExact: P2.2, of all edges and about squares of every size, against exact numbers.
func TestRootExact(t *testing.T) {
	list := wides()
	for bit := range 64 {
		n := uint64(1) << bit
		for _, side := range []uint64{n - 1, n, n + 1, n + n/3, n + n/7*3, n + n/5*2} {
			exactly := times(up(side), up(side))
			for off := -1; off <= 1; off++ {
				near := sum(exactly, of(off))
				if near.Sign() >= 0 && near.BitLen() <= 127 {
					list = append(list, shrunk(near))
				}
			}
		}
	}
	for _, a := range list {
		n, want := exact(a), new(big.Int)
		if n.Sign() >= 0 {
			want.Sqrt(n)
		}
		if got, ok := wide.Root(a); ok != (n.Sign() >= 0) || up(got).Cmp(want) != 0 {
			t.Fatalf("Root(%v) is %d, %t, not %s", a, got, ok, want)
		}
	}
}

// TestOver: P2.2, by cases: rounded down on both sides of 0, divisors below 1, and quotients that are no ints.
func TestOver(t *testing.T) {
	type w = wide.Wide
	for _, c := range []struct {
		a    w
		d    int
		want int
		ok   bool
	}{
		{w{1, 0}, 3, 6148914691236517205, true}, {w{-1, 0}, 3, -6148914691236517206, true},
		{w{0, 7}, 2, 3, true}, {wide.Of(-7), 2, -4, true}, {wide.Of(-8), 2, -4, true}, {w{0, 8}, 2, 4, true},
		{w{}, 5, 0, true}, {wide.Of(-1), 5, -1, true}, {wide.Of(-5), 5, -1, true}, {wide.Of(-6), 5, -2, true}, {w{0, 4}, 5, 0, true},
		{wide.Of(most), 1, most, true}, {wide.Of(least), 1, least, true}, {wide.Of(-1), most, -1, true}, {w{0, 1}, most, 0, true},
		{w{0, 1 << 63}, 1, 0, false}, {w{-1, 1<<63 - 1}, 1, 0, false}, {w{0, full}, 1, 0, false}, {w{0, full}, 2, most, true},
		{w{1, 0}, 1, 0, false}, {w{1, 0}, 2, 0, false}, {w{-1, 0}, 2, least, true}, {w{-1, 0}, 1, 0, false},
		{w{-2, full}, 2, 0, false}, {w{-2, full}, 3, -6148914691236517206, true},
		{w{most, full}, most, 0, false}, {w{least, 0}, most, 0, false}, {w{most, full}, 1, 0, false}, {w{least, 0}, 1, 0, false},
		{wide.Mul(most, most), most, most, true}, {wide.Mul(least, most), most, least, true},
		{wide.Add(wide.Mul(most, most), w{0, most - 1}), most, most, true}, {wide.Mul(most, least), most - 1, 0, false},
		{wide.Add(wide.Mul(most, most), w{0, most}), most, 0, false}, {wide.Sub(wide.Mul(least, most), w{0, 1}), most, 0, false},
		{w{0, 7}, 0, 0, false}, {w{}, 0, 0, false}, {w{0, 7}, -2, 0, false}, {wide.Of(-7), -2, 0, false}, {w{0, 8}, -1, 0, false},
		{w{}, least, 0, false}, {w{least, 0}, least, 0, false}, {w{least, 0}, 0, 0, false}, {w{most, full}, -1, 0, false},
	} {
		if got, ok := wide.Over(c.a, c.d); got != c.want || ok != c.ok {
			t.Errorf("Over(%v, %d) is %d, %t, not %d, %t", c.a, c.d, got, ok, c.want, c.ok)
		}
	}
}

// TestOverExact: P2.2, against exact numbers.
func TestOverExact(t *testing.T) {
	for _, a := range wides() {
		for _, d := range ints() {
			want, fits := new(big.Int), false
			if d >= 1 {
				// Of Euclid's division the rest is not below 0, so the quotient is rounded down.
				want.Div(exact(a), of(d))
				fits = want.IsInt64()
			}
			if !fits {
				want.SetInt64(0)
			}
			if got, ok := wide.Over(a, d); ok != fits || want.Cmp(of(got)) != 0 {
				t.Fatalf("Over(%v, %d) is %d, %t, not %s, %t", a, d, got, ok, want, fits)
			}
		}
	}
}

// TestDistributive: P2.3, a product with a sum is the sum of the products.
func TestDistributive(t *testing.T) {
	list := edges()
	for _, a := range list {
		for _, b := range list {
			for _, c := range list {
				if both := b + c; (both > b) == (c > 0) {
					got, want := wide.Mul(a, both), wide.Add(wide.Mul(a, b), wide.Mul(a, c))
					if got != want {
						t.Fatalf("%d times %d plus %d is %v, not %v", a, b, c, got, want)
					}
				}
			}
		}
	}
}

// TestSubRestores: P2.3, subtracting what was added restores the number, also if the sum has wrapped.
func TestSubRestores(t *testing.T) {
	list := wides()
	for _, a := range list {
		for _, b := range list {
			if got := wide.Sub(wide.Add(a, b), b); got != a {
				t.Fatalf("%v with %v added and subtracted is %v", a, b, got)
			}
		}
	}
}

// TestRootLaw: P2.3, the square of a root is not greater than its number, and the square of the next integer is.
func TestRootLaw(t *testing.T) {
	for _, a := range wides() {
		root, ok := wide.Root(a)
		if !ok {
			continue
		}
		next := sum(up(root), of(1))
		if times(up(root), up(root)).Cmp(exact(a)) > 0 || times(next, next).Cmp(exact(a)) <= 0 {
			t.Fatalf("%d is not the root of %v", root, a)
		}
	}
}

// TestQuotientLaw: P2.3, a number is its quotient times the divisor plus the remainder.
func TestQuotientLaw(t *testing.T) {
	seen := 0
	for _, a := range wides() {
		for _, d := range ints() {
			quotient, ok := wide.Over(a, d)
			if !ok {
				continue
			}
			seen++
			rest := wide.Sub(a, wide.Mul(quotient, d))
			if wide.Cmp(rest, wide.Of(0)) < 0 || wide.Cmp(rest, wide.Of(d)) >= 0 {
				t.Fatalf("%v is not %d times %d and less than another one", a, quotient, d)
			}
		}
	}
	if seen < 1000 {
		t.Fatalf("only %d quotients were ints", seen)
	}
}
