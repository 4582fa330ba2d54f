package frac_test

import (
	"math"
	"math/big"
	"slices"
	"testing"

	"skylight/api"
	"skylight/frac"
)

const (
	least = math.MinInt
	most  = math.MaxInt
	far   = 1 << 31 // as far as Mid goes
)

// ints holds ints about 0, about 2^31, about 2^32 and about both ends, in their order.
func ints() []int {
	list := []int{12345, -12345, 6148914691236517205, -6148914691236517205}
	for _, middle := range []int{0, far, -far, 1 << 32, -1 << 32, 1 << 62, -1 << 62} {
		list = append(list, middle-2, middle-1, middle, middle+1, middle+2)
	}
	list = append(list, least, least+1, least+2, most-2, most-1, most)
	slices.Sort(list)
	return slices.Compact(list)
}

// of is the fraction with n and d, valid or not.
func of(n, d int) api.Frac { return api.Frac{N: n, D: d} }

// fracs holds a fraction of any two of the ints, valid or not.
func fracs() []api.Frac {
	var list []api.Frac
	for _, n := range ints() {
		for _, d := range ints() {
			list = append(list, of(n, d))
		}
	}
	return list
}

// valids holds the valid ones of fracs.
func valids() []api.Frac {
	return slices.DeleteFunc(fracs(), func(f api.Frac) bool { return f.D < 1 })
}

// shapes holds fractions of small numbers, valid or not, with many of the same value.
func shapes() []api.Frac {
	var list []api.Frac
	for n := -4; n <= 4; n++ {
		for d := -1; d <= 4; d++ {
			list = append(list, of(n, d))
		}
	}
	return list
}

// exact is the value of a valid fraction.
func exact(f api.Frac) *big.Rat { return big.NewRat(int64(f.N), int64(f.D)) }

// partOf is v times a valid f, rounded down and held within the ints.
func partOf(v int, f api.Frac) int {
	part := new(big.Int).Mul(big.NewInt(int64(v)), big.NewInt(int64(f.N)))
	// Of Euclid's division the rest is not below 0, so the quotient is rounded down.
	part.Div(part, big.NewInt(int64(f.D)))
	if part.IsInt64() {
		return int(part.Int64())
	}
	if part.Sign() < 0 {
		return least
	}
	return most
}

// TestRight: P3.1, valid is what has a D of at least 1, whatever N is.
func TestRight(t *testing.T) {
	for _, n := range []int{least, -1, 0, 1, most} {
		for _, c := range []struct {
			d    int
			want bool
		}{
			{1, true}, {2, true}, {far + 1, true}, {most, true},
			{0, false}, {-1, false}, {-far, false}, {least + 1, false}, {least, false},
		} {
			if got := frac.Right(of(n, c.d)); got != c.want {
				t.Errorf("Right(%d/%d) is %t", n, c.d, got)
			}
		}
	}
}

// TestMake: P3.1; nothing is shortened, and the least int is refused wherever it stands.
func TestMake(t *testing.T) {
	none := api.Frac{}
	for _, c := range []struct {
		n, d int
		want api.Frac
		ok   bool
	}{
		{1, 3, of(1, 3), true}, {1, -3, of(-1, 3), true}, {-1, 3, of(-1, 3), true}, {-1, -3, of(1, 3), true},
		{0, 5, of(0, 5), true}, {0, -5, of(0, 5), true}, {4, 6, of(4, 6), true}, {-4, -6, of(4, 6), true}, {7, 1, of(7, 1), true}, {7, -1, of(-7, 1), true},
		{far + 1, -far - 2, of(-far-1, far+2), true}, {1 << 40, 1 << 50, of(1<<40, 1<<50), true},
		{most, most, of(most, most), true}, {most, -most, of(-most, most), true}, {-most, most, of(-most, most), true}, {-most, -most, of(most, most), true},
		{0, 0, none, false}, {1, 0, none, false}, {-1, 0, none, false}, {most, 0, none, false}, {least, 0, none, false},
		{least, 1, none, false}, {least, 2, none, false}, {least, -1, none, false}, {least, most, none, false},
		{0, least, none, false}, {1, least, none, false}, {-1, least, none, false}, {most, least, none, false}, {least, least, none, false},
	} {
		if got, ok := frac.Make(c.n, c.d); got != c.want || ok != c.ok {
			t.Errorf("Make(%d, %d) is %v, %t, not %v, %t", c.n, c.d, got, ok, c.want, c.ok)
		}
	}
}

// TestMakeExact: P3.1, what is made is valid and has the quotient's value.
func TestMakeExact(t *testing.T) {
	for _, n := range ints() {
		for _, d := range ints() {
			got, ok := frac.Make(n, d)
			if want := d != 0 && n > least && d > least; ok != want {
				t.Fatalf("Make(%d, %d) is %v, %t", n, d, got, ok)
			}
			if ok && (got.D < 1 || exact(got).Cmp(exact(of(n, d))) != 0) || !ok && got != of(0, 0) {
				t.Fatalf("Make(%d, %d) is %v", n, d, got)
			}
		}
	}
}

// TestLessSame: P3.1, by cases, with the chapter's example: equal ones of unlike numbers, products beyond an int, and those that are not valid.
func TestLessSame(t *testing.T) {
	for _, c := range []struct {
		a, b       api.Frac
		less, same bool
	}{
		{of(1, 3), of(2, 5), true, false}, {of(2, 5), of(1, 3), false, false}, {of(1, 3), of(1, 3), false, true},
		{of(1, 3), of(2, 6), false, true}, {of(-1, 3), of(-2, 6), false, true}, {of(0, 1), of(0, most), false, true}, {of(7, 7), of(1, 1), false, true},
		{of(-1, 3), of(1, 3), true, false}, {of(-1, 3), of(-2, 5), false, false}, {of(-2, 5), of(-1, 3), true, false}, {of(-1, 2), of(0, 9), true, false},
		{of(most-1, most), of(most, most), true, false}, {of(most-2, most-1), of(most-1, most), true, false}, {of(most-1, most), of(most-2, most-1), false, false},
		{of(1<<32, 1), of(1, 1<<32), false, false}, {of(1, 1<<32), of(1<<32, 1), true, false}, {of(1<<62, 1<<61), of(2, 1), false, true},
		{of(least, 1), of(least+1, 1), true, false}, {of(least, 1), of(most, 1), true, false}, {of(most, 1), of(least, 1), false, false}, {of(least, 2), of(-1<<62, 1), false, true},
		{of(least, most), of(-1, 1), true, false}, {of(least, most), of(least, most), false, true}, {of(1, most), of(1, most-1), true, false}, {of(-1, most), of(-1, most-1), false, false},
		{of(1, 0), of(2, 1), false, false}, {of(1, 1), of(2, 0), false, false}, {of(0, 0), of(0, 0), false, false}, {of(1, 0), of(1, 0), false, false}, {of(-1, 0), of(1, 0), false, false}, {of(0, 0), of(0, 1), false, false},
		{of(1, -3), of(2, 5), false, false}, {of(2, 5), of(1, -3), false, false}, {of(1, -1), of(-1, 1), false, false}, {of(-1, 1), of(1, -1), false, false}, {of(1, -1), of(1, -1), false, false},
		{of(1, -2), of(1, -3), false, false}, {of(1, -3), of(1, -2), false, false}, {of(1, least), of(1, 1), false, false}, {of(-1, 1), of(1, least), false, false},
	} {
		if got := frac.Less(c.a, c.b); got != c.less {
			t.Errorf("Less(%v, %v) is %t", c.a, c.b, got)
		}
		if got := frac.Same(c.a, c.b); got != c.same {
			t.Errorf("Same(%v, %v) is %t", c.a, c.b, got)
		}
	}
}

// TestLessSameExact: P3.1, against exact numbers.
func TestLessSameExact(t *testing.T) {
	list := fracs()
	for i := 0; i < len(list); i += 7 {
		for j := i % 11; j < len(list); j += 11 {
			checkOrder(t, list[i], list[j])
		}
	}
	for _, a := range shapes() {
		for _, b := range shapes() {
			checkOrder(t, a, b)
		}
	}
}

func checkOrder(t *testing.T, a, b api.Frac) {
	t.Helper()
	less, same := false, false
	if a.D >= 1 && b.D >= 1 {
		order := exact(a).Cmp(exact(b))
		less, same = order < 0, order == 0
	}
	if got := frac.Less(a, b); got != less {
		t.Fatalf("Less(%v, %v) is %t", a, b, got)
	}
	if got := frac.Same(a, b); got != same {
		t.Fatalf("Same(%v, %v) is %t", a, b, got)
	}
}

// TestLeast: P3.1, by cases: the first of equal ones, those that are not valid left out, and none that is valid.
func TestLeast(t *testing.T) {
	for _, c := range []struct {
		list []api.Frac
		want int
	}{
		{[]api.Frac{of(2, 1), of(1, 1), of(1, 1)}, 1}, {[]api.Frac{of(2, 1), of(3, 3), of(1, 1), of(7, 7)}, 1}, {[]api.Frac{of(1, 1), of(2, 1)}, 0}, {[]api.Frac{of(1, 2), of(1, 3), of(1, 4)}, 2},
		{[]api.Frac{of(5, 9)}, 0}, {[]api.Frac{of(0, 1), of(0, 7), of(0, 2)}, 0}, {[]api.Frac{of(1, 9), of(-1, 9), of(-1, 8), of(-2, 16)}, 2},
		{[]api.Frac{of(-9, 0), of(2, 1), of(-5, -1), of(1, 1), of(-3, 0)}, 3}, {[]api.Frac{of(-9, -1), of(2, 1)}, 1}, {[]api.Frac{of(2, 1), of(-9, 0)}, 0}, {[]api.Frac{of(0, 0), of(0, 0), of(0, 5)}, 2}, {[]api.Frac{of(1, -1), of(-1, 1), of(1, -1)}, 1},
		{[]api.Frac{of(most, 1), of(least, 2), of(least, 1), of(-most, 1)}, 2}, {[]api.Frac{of(most, most), of(most-1, most), of(most-2, most-1)}, 2}, {[]api.Frac{of(most, 1), of(1, most), of(1, most-1)}, 1},
		{nil, -1}, {[]api.Frac{}, -1}, {[]api.Frac{of(1, 0)}, -1}, {[]api.Frac{of(0, 0), of(0, 0)}, -1}, {[]api.Frac{of(5, -1), of(-5, 0), of(1, least), of(least, least)}, -1},
	} {
		kept := slices.Clone(c.list)
		if got := frac.Least(c.list); got != c.want {
			t.Errorf("Least(%v) is %d, not %d", c.list, got, c.want)
		}
		if !slices.Equal(c.list, kept) {
			t.Errorf("Least has changed %v to %v", kept, c.list)
		}
	}
}

// TestLeastExact: P3.1, of pieces of many fractions, against exact numbers.
func TestLeastExact(t *testing.T) {
	for _, list := range [][]api.Frac{fracs(), shapes()} {
		for from := range list {
			piece := list[from:min(from+1+from%9*5, len(list))]
			want := -1
			for i, f := range piece {
				if f.D >= 1 && (want < 0 || exact(f).Cmp(exact(piece[want])) < 0) {
					want = i
				}
			}
			if got := frac.Least(piece); got != want {
				t.Fatalf("Least(%v) is %d, not %d", piece, got, want)
			}
		}
	}
}

// TestLeastWithinLength: P3.1 and 0.8, what lies beyond the length of a list is not read.
func TestLeastWithinLength(t *testing.T) {
	list := []api.Frac{of(3, 1), of(2, 1), of(1, 1)}
	if got := frac.Least(list[:2]); got != 1 {
		t.Errorf("Least of two of three is %d, not 1", got)
	}
	if got := frac.Least(list[:0]); got != -1 {
		t.Errorf("Least of none of three is %d, not -1", got)
	}
}

// TestAt: P3.2, by cases, with the chapter's example: rounded down on both sides of 0, products beyond an int, and results beyond one.
func TestAt(t *testing.T) {
	for _, c := range []struct {
		v    int
		f    api.Frac
		want int
	}{
		{10, of(-1, 3), -4}, {10, of(1, 3), 3}, {-10, of(1, 3), -4}, {-10, of(-1, 3), 3}, {9, of(1, 3), 3}, {-9, of(1, 3), -3}, {9, of(-1, 3), -3},
		{0, of(5, 7), 0}, {5, of(0, 7), 0}, {1, of(1, most), 0}, {-1, of(1, most), -1}, {1, of(-1, most), -1}, {7, of(2, 1), 14},
		{1 << 40, of(1<<40, 1<<40), 1 << 40}, {most, of(most, most), most}, {least, of(most, most), least}, {most, of(least, most), least}, {most, of(most-1, most), most - 1}, {least, of(1, 2), -1 << 62}, {most, of(-1, 2), -1 << 62},
		{far + 1, of(far+1, far+2), far}, {-far - 1, of(far+1, far+2), -far - 1},
		{most, of(1, 1), most}, {least, of(1, 1), least}, {most, of(-1, 1), -most}, {least, of(-1, 1), most}, {least, of(-1, 2), 1 << 62},
		{most, of(2, 1), most}, {most, of(-2, 1), least}, {least, of(2, 1), least}, {least, of(-2, 1), most}, {1 << 62, of(2, 1), most}, {-1 << 62, of(2, 1), least}, {1 << 62, of(-2, 1), least},
		{most, of(most, 1), most}, {least, of(least, 1), most}, {least, of(most, 1), least}, {most, of(least, 1), least}, {least, of(least, most), most}, {most, of(most, most-1), most},
		{least, of(most, most-1), least}, {1 << 62, of(1<<62+1, 1<<61), most}, {-1 << 62, of(1<<62+1, 1<<61), least}, {1<<62 - 1, of(1<<62+1, 1<<61), most},
		{7, of(3, 0), 0}, {-7, of(3, 0), 0}, {7, of(3, -1), 0}, {7, of(3, -2), 0}, {most, of(most, 0), 0}, {least, of(1, least), 0}, {least, of(least, least), 0}, {0, of(0, 0), 0},
	} {
		if got := frac.At(c.v, c.f); got != c.want {
			t.Errorf("At(%d, %v) is %d, not %d", c.v, c.f, got, c.want)
		}
	}
}

// TestAtExact: P3.2, against exact numbers.
func TestAtExact(t *testing.T) {
	for _, v := range ints() {
		for _, f := range append(fracs(), shapes()...) {
			want := 0
			if f.D >= 1 {
				want = partOf(v, f)
			}
			if got := frac.At(v, f); got != want {
				t.Fatalf("At(%d, %v) is %d, not %d", v, f, got, want)
			}
		}
	}
}

// TestMid: P3.2, by cases: nothing is shortened, and N and D go up to 2^31 on both sides.
func TestMid(t *testing.T) {
	none := api.Frac{}
	for _, c := range []struct{ a, b, want api.Frac }{
		{of(1, 3), of(2, 5), of(3, 8)}, {of(1, 2), of(1, 2), of(2, 4)}, {of(-1, 2), of(1, 2), of(0, 4)}, {of(0, 1), of(0, 1), of(0, 2)}, {of(-3, 4), of(1, 5), of(-2, 9)},
		{of(far, 1), of(far, 1), of(2*far, 2)}, {of(-far, far), of(-far, far), of(-2*far, 2*far)}, {of(far, far), of(-far, 1), of(0, far+1)},
		{of(1, 0), of(1, 2), none}, {of(1, -1), of(1, 2), none}, {of(0, 0), of(0, 0), none}, {of(1, -far), of(1, 2), none}, {of(1, least), of(1, 2), none},
		{of(far+1, 1), of(1, 1), none}, {of(-far-1, 1), of(1, 1), none}, {of(1, far+1), of(1, 1), none}, {of(most, 1), of(-most, 1), none}, {of(least, 1), of(1, 1), none}, {of(1, most), of(1, 1), none},
	} {
		if got := frac.Mid(c.a, c.b); got != c.want {
			t.Errorf("Mid(%v, %v) is %v, not %v", c.a, c.b, got, c.want)
		}
		if got := frac.Mid(c.b, c.a); got != c.want {
			t.Errorf("Mid(%v, %v) is %v, not %v", c.b, c.a, got, c.want)
		}
	}
}

// TestMidLimits: P3.2, any fraction with any other one: both have to be valid and within the limits.
func TestMidLimits(t *testing.T) {
	fits := func(f api.Frac) bool {
		return f.D >= 1 && f.D <= far && f.N >= -far && f.N <= far
	}
	list := fracs()
	for i, a := range list {
		for j := i % 7; j < len(list); j += 7 {
			b, want := list[j], api.Frac{}
			if fits(a) && fits(b) {
				want = of(a.N+b.N, a.D+b.D)
			}
			if got := frac.Mid(a, b); got != want {
				t.Fatalf("Mid(%v, %v) is %v, not %v", a, b, got, want)
			}
		}
	}
}

// TestOneOfThree: P3.3, of any two valid fractions one is less, or they have the same value.
func TestOneOfThree(t *testing.T) {
	list := append(valids(), of(2, 4), of(1, 2), of(-3, 9), of(-1, 3))
	for i, a := range list {
		for _, b := range list[i:] {
			holds := 0
			for _, one := range []bool{frac.Less(a, b), frac.Less(b, a), frac.Same(a, b)} {
				if one {
					holds++
				}
			}
			if holds != 1 || frac.Same(a, b) != frac.Same(b, a) {
				t.Fatalf("of %v and %v, %d hold of less, greater and same", a, b, holds)
			}
		}
	}
}

// TestPartsInOrder: P3.3, the parts of a number from 0 on are ordered as the fractions are, and those of one below 0 the other way.
func TestPartsInOrder(t *testing.T) {
	list := valids()
	slices.SortFunc(list, func(a, b api.Frac) int { return exact(a).Cmp(exact(b)) })
	for i := range len(list) - 1 {
		a, b := list[i], list[i+1]
		for _, v := range ints() {
			low, high := frac.At(v, a), frac.At(v, b)
			if v < 0 {
				low, high = high, low
			}
			if low > high || frac.Same(a, b) && low != high {
				t.Fatalf("the parts of %d by %v and by %v are out of order", v, a, b)
			}
		}
	}
}

// TestMidBetween: P3.3, Mid of two fractions with different values lies between them.
func TestMidBetween(t *testing.T) {
	list := slices.DeleteFunc(valids(), func(f api.Frac) bool { return frac.Mid(f, f) == of(0, 0) })
	list = append(list, of(1, 3), of(2, 5), of(-1, 3), of(far-1, far), of(far-2, far-1), of(1, far), of(-far, 3))
	seen := 0
	for _, a := range list {
		for _, b := range list {
			if !frac.Less(a, b) {
				continue
			}
			seen++
			middle := frac.Mid(a, b)
			if !frac.Less(a, middle) || !frac.Less(middle, b) {
				t.Fatalf("Mid(%v, %v) is %v", a, b, middle)
			}
		}
	}
	if seen < 1000 {
		t.Fatalf("only %d pairs had different values", seen)
	}
}
