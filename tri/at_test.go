package tri_test

import (
	"math/big"
	"testing"

	"skylight/api"
	"skylight/tri"
)

// fractions holds what u and v may be: both ends, those about them, and some between.
func fractions() []int {
	return []int{0, 1, 2, 3, 1000, 21845, one/2 - 1, one / 2, one/2 + 1, 43691, one - 1000, one - 2, one - 1, one}
}

// point is what the chapter says of u and v that may be, by exact numbers.
func point(s triangle, u, v int) api.Vec {
	if u+v > one {
		u, v = one-u, one-v
	}
	ab, ac := minus(s.b, s.a), minus(s.c, s.a)
	return made(func(axis int) int {
		along := new(big.Int).Mul(exact(list(ab)[axis]), exact(u))
		along.Add(along, new(big.Int).Mul(exact(list(ac)[axis]), exact(v)))
		// Div rounds down, as what it divides by is above 0.
		along.Div(along, exact(one))
		return list(s.a)[axis] + int(along.Int64())
	})
}

// TestAt: P11.2, by cases: the corners, the middles of the sides, what lies beyond the third side, and what is rounded, also below 0.
func TestAt(t *testing.T) {
	s, odd := triangle{of(0, 0, 0), of(4, 0, 0), of(0, 4, 0)}, triangle{of(10, -20, 30), of(9, -21, 29), of(11, -19, 33)}
	for _, c := range []struct {
		s    triangle
		u, v int
		want api.Vec
	}{
		{s, 0, 0, of(0, 0, 0)}, {s, one, 0, of(4, 0, 0)}, {s, 0, one, of(0, 4, 0)}, {s, one / 2, one / 2, of(2, 2, 0)}, {s, one / 2, 0, of(2, 0, 0)}, {s, one / 4, one / 2, of(1, 2, 0)},
		{s, one, one, of(0, 0, 0)}, {s, 3 * one / 4, 3 * one / 4, of(1, 1, 0)}, {s, one, one / 2, of(0, 2, 0)}, {s, one / 2, one, of(2, 0, 0)},
		{s, one / 4, 3 * one / 4, of(1, 3, 0)}, {s, one/4 + 1, 3 * one / 4, of(2, 1, 0)}, {s, one / 4, 3*one/4 + 1, of(3, 0, 0)}, // sums of 65536 and of 65537
		{s, one, 1, of(0, 3, 0)}, {s, 1, one, of(3, 0, 0)}, {s, one - 1, 1, of(3, 0, 0)}, {s, 1, one - 1, of(0, 3, 0)},
		{odd, 0, 0, of(10, -20, 30)}, {odd, one, 0, of(9, -21, 29)}, {odd, 0, one, of(11, -19, 33)}, {odd, one, one, of(10, -20, 30)},
		{odd, 1, 0, of(9, -21, 29)}, {odd, one - 1, 0, of(9, -21, 29)}, {odd, 0, 1, of(10, -20, 30)}, {odd, 0, one - 1, of(10, -20, 32)},
		{odd, 100, 100, of(10, -20, 30)}, {odd, 101, 100, of(9, -21, 30)}, {odd, 100, 101, of(10, -20, 30)}, {odd, 300, 100, of(9, -21, 30)}, {odd, 301, 100, of(9, -21, 29)}, // divided together
	} {
		if got := tri.At(c.s.a, c.s.b, c.s.c, c.u, c.v); got != c.want {
			t.Errorf("of %v by %d, %d it is %v, not %v", c.s, c.u, c.v, got, c.want)
		}
	}
}

// TestAtExact: P11.2, against exact numbers, also of what has no area; the answer is a place.
func TestAtExact(t *testing.T) {
	for _, s := range append(triangles(), flats()...) {
		for _, u := range fractions() {
			for _, v := range append(fractions(), one-u, max(0, one-u-1), min(one, one-u+1)) {
				if got, want := tri.At(s.a, s.b, s.c, u, v), point(s, u, v); got != want || !tri.Place(got) {
					t.Fatalf("of %v by %d, %d it is %v, not %v", s, u, v, got, want)
				}
			}
		}
	}
}

// TestAtStrays: P11.2, it is zero if u or v is below 0 or above 65536, also where their sum is not, and if a corner is no place.
func TestAtStrays(t *testing.T) {
	s := triangle{of(1, 2, 3), of(4, 5, 6), of(7, 8, 10)}
	for _, n := range []int{-1, one + 1, -2, 2 * one, -one, one + 2, 1 << 31, -1 << 31, 1 << 32, 1<<32 + 5, most, most - 1, least, least + 1, least + one} {
		for _, other := range append(fractions(), n, -n, one-n, -1, one+1, most, least) {
			if got, back := tri.At(s.a, s.b, s.c, n, other), tri.At(s.a, s.b, s.c, other, n); got != (api.Vec{}) || back != (api.Vec{}) {
				t.Errorf("by %d, %d it is %v, the other way round %v", n, other, got, back)
			}
		}
	}
	for _, s := range broken() {
		for _, u := range append(fractions(), -1, one+1) {
			for _, v := range append(fractions(), -1, one+1) {
				if got := tri.At(s.a, s.b, s.c, u, v); got != (api.Vec{}) {
					t.Errorf("of %v by %d, %d it is %v", s, u, v, got)
				}
			}
		}
	}
}
