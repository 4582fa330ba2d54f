package box_test

import (
	"math/big"
	"testing"

	"skylight/api"
	"skylight/box"
)

// from is the ray from o along d, which leaves nothing.
func from(o, d api.Vec) api.Ray { return api.Ray{O: o, D: d, From: -1} }

// frac is n / d.
func frac(n, d int) api.Frac { return api.Frac{N: n, D: d} }

// limitless holds fractions that are not valid.
func limitless() []api.Frac {
	return []api.Frac{{}, frac(-1, 0), frac(1, 0), frac(0, -1), frac(-5, -3), frac(7, -2), frac(most, least), frac(least, least), frac(least, 0)}
}

// turned is f with its sign in N.
func turned(f api.Frac) api.Frac {
	if f.D < 0 {
		return frac(-f.N, -f.D)
	}
	return f
}

// upTo tells whether f is at most the other one, if that is valid; the products are exact.
func upTo(f, other api.Frac) bool {
	if other.D < 1 {
		return true
	}
	left := new(big.Int).Mul(big.NewInt(int64(f.N)), big.NewInt(int64(other.D)))
	right := new(big.Int).Mul(big.NewInt(int64(other.N)), big.NewInt(int64(f.D)))
	return left.Cmp(right) <= 0
}

// insideAt tells whether the ray is in the box at f, which is a quotient of near numbers, so that all products are ints.
func insideAt(b box.Box, r api.Ray, f api.Frac) bool {
	for axis, o := range list(r.O) {
		at := o*f.D + list(r.D)[axis]*f.N
		if at < list(b.Lo)[axis]*f.D || at > list(b.Hi)[axis]*f.D {
			return false
		}
	}
	return true
}

// entry is the least fraction of at least 0 at which the ray is in the box; false if there is none. It is 0, or one at which the ray passes a face.
func entry(b box.Box, r api.Ray) (api.Frac, bool) {
	first, found := api.Frac{}, false
	take := func(f api.Frac) {
		if f.N >= 0 && insideAt(b, r, f) && (!found || upTo(f, first)) {
			first, found = f, true
		}
	}
	take(frac(0, 1))
	for axis, d := range list(r.D) {
		if d != 0 {
			take(turned(frac(list(b.Lo)[axis]-list(r.O)[axis], d)))
			take(turned(frac(list(b.Hi)[axis]-list(r.O)[axis], d)))
		}
	}
	return first, found
}

// check compares Hit with what the definition says, for some fractions and for those about the very one at which the ray enters the box.
func check(t *testing.T, b box.Box, r api.Ray, fractions []api.Frac) {
	first, found := entry(b, r)
	for _, f := range fractions {
		if got, want := box.Hit(b, r, f), found && upTo(first, f); got != want {
			t.Fatalf("%v meets %v up to %v: %t", r, b, f, got)
		}
	}
	if !found {
		return
	}
	n, d := first.N, first.D
	great := most / (max(n, d) + 1)
	for _, k := range []int{1, 2, 1000, great} {
		if !box.Hit(b, r, frac(n*k, d*k)) || !box.Hit(b, r, frac(n*k+1, d*k)) {
			t.Fatalf("%v does not meet %v at %d / %d", r, b, n, d)
		}
		if box.Hit(b, r, frac(n*k-1, d*k)) {
			t.Fatalf("%v meets %v less than %d / %d before %d / %d", r, b, 1, d*k, n, d)
		}
	}
}

// TestHit: P10.2, by cases: the box of the chapter's example, and from where, along what, and up to which fraction a ray meets it.
func TestHit(t *testing.T) {
	b := between(of(0, 0, 0), of(2, 3, 4))
	for _, c := range []struct {
		o, d api.Vec
		most api.Frac
		want bool
	}{
		{of(-1, 1, 1), of(1, 0, 0), frac(0, 0), true}, {of(-1, 1, 1), of(1, 0, 0), frac(1, 2), false}, // the chapter's example
		{of(-1, 1, 1), of(1, 0, 0), frac(1, 1), true}, {of(-1, 1, 1), of(1, 0, 0), frac(most-1, most), false}, {of(-1, 1, 1), of(2, 0, 0), frac(1, 2), true},
		{of(-1, 1, 1), of(-1, 0, 0), frac(0, 0), false}, {of(3, 1, 1), of(1, 0, 0), frac(0, 0), false}, {of(3, 1, 1), of(-1, 0, 0), frac(0, 0), true}, {of(3, 1, 1), of(-1, 0, 0), frac(1, 1), true},
		{of(1, 1, 1), of(5, 6, 7), frac(0, 1), true}, {of(1, 1, 1), of(0, -1, 0), frac(0, 9), true}, {of(1, 1, 1), of(5, 6, 7), frac(-1, most), false}, {of(1, 1, 1), of(5, 6, 7), frac(least, 1), false}, // from within
		{of(0, 1, 1), of(-1, 0, 0), frac(0, 0), true}, {of(2, 1, 1), of(1, 0, 0), frac(0, 1), true}, {of(2, 3, 4), of(1, 1, 1), frac(0, 0), true}, {of(2, 3, 4), of(1, 1, 1), frac(-1, 5), false}, // from a face, and away
		{of(0, -1, 1), of(0, 1, 0), frac(0, 0), true}, {of(2, -1, 1), of(0, 1, 0), frac(1, 1), true}, {of(3, -1, 1), of(0, 1, 0), frac(0, 0), false}, {of(-1, -1, 1), of(0, 1, 0), frac(0, 0), false}, // along a face, and beside it
		{of(2, 3, -9), of(0, 0, 2), frac(9, 2), true}, {of(2, 3, -9), of(0, 0, 2), frac(4, 1), false}, {of(2, 4, -9), of(0, 0, 2), frac(0, 0), false}, {of(3, 3, -9), of(0, 0, 2), frac(0, 0), false}, // along an edge, and beside it
		{of(-1, 1, 2), of(1, -1, 0), frac(1, 1), true}, {of(-2, 1, 2), of(1, -1, 0), frac(0, 0), false}, {of(-1, 1, 2), of(1000, -1001, 0), frac(0, 0), false}, {of(-1, 1, 2), of(1000, -999, 0), frac(1, 1000), true}, // past an edge
		{of(1, 1, 1), of(0, 0, 0), frac(0, 0), true}, {of(1, 1, 1), of(0, 0, 0), frac(0, 1), true}, {of(2, 3, 4), of(0, 0, 0), frac(5, 1), true}, {of(1, 1, 1), of(0, 0, 0), frac(-1, 1), false}, // going nowhere
		{of(3, 1, 1), of(0, 0, 0), frac(0, 0), false}, {of(1, -1, 1), of(0, 0, 0), frac(0, 0), false}, {of(1, 1, 5), of(0, 0, 0), frac(most, 1), false},
		{of(4, 6, 8), of(-2, -3, -4), frac(1, 1), true}, {of(4, 6, 8), of(-2, -3, -4), frac(999, 1000), false}, {of(4, 6, 8), of(-2, -3, -3), frac(0, 0), true}, {of(4, 6, 8), of(-2, -3, -1), frac(0, 0), false}, // below 0 along every axis
	} {
		if got := box.Hit(b, from(c.o, c.d), c.most); got != c.want {
			t.Errorf("from %v along %v, it is met up to %v: %t", c.o, c.d, c.most, got)
		}
	}
}

// TestHitSmall: P10.2, every ray from about small boxes along small ways, with none, one, two or all three axes that it does not go along.
func TestHitSmall(t *testing.T) {
	fractions := []api.Frac{{}, frac(5, -1), frac(-1, 3), frac(0, 7), frac(1, 3), frac(1, 2), frac(1, 1), frac(4, 2), frac(most, 1), frac(least, most)}
	for _, b := range []box.Box{{}, between(of(0, 0, 0), of(2, 3, 1)), between(of(1, -1, 0), of(1, 2, 2)), between(of(0, 1, 1), of(2, 1, 1)), point(of(1, 1, -1))} {
		for _, o := range grid(-3, -1, 0, 1, 2, 4) {
			for _, d := range grid(-2, -1, 0, 1, 3) {
				check(t, b, from(o, d), fractions)
			}
		}
	}
}

// TestHitWide: P10.2, rays of every length, up to both bounds of what is near, towards boxes of every size and past them.
func TestHitWide(t *testing.T) {
	fractions := []api.Frac{{}, frac(0, 1), frac(1, near), frac(1, 2), frac(1, 1), frac(most, most-1), frac(3, 1), frac(most, 1), frac(-1, most)}
	var rays []api.Ray
	starts, ways := append(grid(near, 0, -near), scattered(60, near)...), append(grid(near, 0, -near), scattered(50, near)...)
	for place, o := range starts {
		for step := range 12 {
			rays = append(rays, from(o, ways[(place+7*step)%len(ways)]))
		}
		rays = append(rays, from(o, made(func(axis int) int { return -list(o)[axis] })))
	}
	for _, b := range boxes() {
		for _, r := range rays {
			check(t, b, r, fractions)
		}
	}
}

// TestHitBeside: P10.2, a ray that goes exactly through an edge or a corner meets the box, and one that passes it by the least that there is does not.
func TestHitBeside(t *testing.T) {
	for _, b := range []box.Box{between(of(-100, -100, -100), of(0, 0, 0)), point(of(0, 0, 0)), between(of(-near, -near, -near), of(0, 0, 0))} {
		for n := 1; n < near; n = 3*n + 1 {
			for _, c := range []struct {
				o, d api.Vec
				want bool
			}{
				{of(n, -n, 0), of(-n, n, 0), true}, {of(n, -n, 0), of(-n, n+1, 0), false}, {of(n, -n, 0), of(-n-1, n, 0), b.Lo.X < 0},
				{of(0, n, -n), of(0, -n, n), true}, {of(0, n, -n), of(0, -n, n+1), false}, {of(0, n, -n), of(0, -n-1, n), b.Lo.X < 0},
				{of(n, 0, -n), of(-n, 0, n), true}, {of(n, 0, -n), of(-n, 0, n+1), false}, {of(n, 0, -n), of(-n-1, 0, n), b.Lo.X < 0},
				{of(n, n, n), of(-n, -n, -n), true}, {of(n, n, n), of(-near, -near, -near), true}, {of(n, n, 1), of(-n, -n, 0), false}, {of(n, 1, n), of(-n, 0, -n), false}, {of(1, n, n), of(0, -n, -n), false},
			} {
				if got := box.Hit(b, from(c.o, c.d), api.Frac{}); got != c.want {
					t.Errorf("from %v along %v, %v is met: %t", c.o, c.d, b, got)
				}
				check(t, b, from(c.o, c.d), limitless())
			}
		}
	}
}

// TestHitLimitless: P10.2, a fraction that is not valid is no limit, whatever its numbers are.
func TestHitLimitless(t *testing.T) {
	b := between(of(near-1, near-2, near-3), of(near, near, near))
	for _, f := range limitless() {
		if !box.Hit(b, from(of(-near, -near, -near), of(1, 1, 1)), f) || !box.Hit(b, from(of(near, near, near), of(0, 0, 0)), f) {
			t.Errorf("up to %v, it is not met", f)
		}
		if box.Hit(b, from(of(-near, -near, -near), of(-1, -1, -1)), f) || box.Hit(b, from(of(0, 0, 0), of(0, 0, 0)), f) {
			t.Errorf("up to %v, it is met", f)
		}
	}
}

// TestHitFrom: P10.2, what a ray leaves does not matter.
func TestHitFrom(t *testing.T) {
	b := between(of(0, 0, 0), of(2, 3, 4))
	for _, leaves := range []int{-1, 0, 1, 1023, most, least} {
		to, past := api.Ray{O: of(-1, 1, 1), D: of(1, 0, 0), From: leaves}, api.Ray{O: of(-1, 1, 5), D: of(1, 0, 0), From: leaves}
		if !box.Hit(b, to, api.Frac{}) || box.Hit(b, past, api.Frac{}) {
			t.Errorf("a ray that leaves %d meets it: %t, and past it: %t", leaves, box.Hit(b, to, api.Frac{}), box.Hit(b, past, api.Frac{}))
		}
	}
}

// TestHitStrays: P10.2, what is not valid is not met, nor is anything by a ray with an O or a D that is not near.
func TestHitStrays(t *testing.T) {
	fractions := []api.Frac{{}, frac(0, 1), frac(1, 1), frac(most, 1)}
	misses := func(b box.Box, r api.Ray) {
		for _, f := range fractions {
			if box.Hit(b, r, f) {
				t.Errorf("%v meets %v up to %v", r, b, f)
			}
		}
	}
	for _, b := range broken() {
		for _, o := range []api.Vec{of(0, 0, 0), of(1, 0, 0), of(near, near, near), of(-near, -near, -near), b.Lo, b.Hi} {
			for _, d := range grid(-1, 0, 1) {
				misses(b, from(o, d))
			}
		}
	}
	for _, v := range strays() {
		for _, b := range []box.Box{{}, whole(), between(of(-1, -2, -3), of(3, 2, 1))} {
			misses(b, from(of(0, 0, 0), v))
			misses(b, from(v, of(0, 0, 0)))
			misses(b, from(v, v))
			misses(b, from(v, made(func(axis int) int { return max(min(-list(v)[axis], near), -near) })))
		}
	}
}

// TestThrough: P10.3, a ray through a point of a box meets the box, up to the fraction at which it is there.
func TestThrough(t *testing.T) {
	for _, b := range boxes() {
		points := []api.Vec{b.Lo, b.Hi, of(b.Lo.X, b.Hi.Y, b.Lo.Z), made(func(axis int) int { return (list(b.Lo)[axis] + list(b.Hi)[axis]) / 2 })}
		for _, o := range append(scattered(40, near), points...) {
			for _, p := range points {
				way := made(func(axis int) int { return list(p)[axis] - list(o)[axis] })
				longest := max(way.X, -way.X, way.Y, -way.Y, way.Z, -way.Z)
				if longest > near {
					continue
				}
				if !box.Hit(b, from(o, way), frac(1, 1)) || !box.Hit(b, from(o, way), api.Frac{}) {
					t.Fatalf("from %v through %v, %v is not met", o, p, b)
				}
				if twice := made(func(axis int) int { return 2 * list(way)[axis] }); 2*longest <= near && !box.Hit(b, from(o, twice), frac(1, 2)) {
					t.Fatalf("from %v along %v, %v is not met up to the half", o, twice, b)
				}
			}
		}
	}
}

// TestParts: P10.3, a box contains what its parts contain, and has no lesser area than they have.
func TestParts(t *testing.T) {
	for _, a := range boxes() {
		for _, b := range boxes() {
			both := box.Join(a, b)
			if !box.Right(both) || !lies(a, both) || !lies(b, both) || box.Area(both) < max(box.Area(a), box.Area(b)) {
				t.Fatalf("%v and %v, with the areas %d and %d, make %v with the area %d", a, b, box.Area(a), box.Area(b), both, box.Area(both))
			}
			for _, v := range []api.Vec{a.Lo, a.Hi, b.Lo, b.Hi, of(0, 0, 0), of(3, 3, 3)} {
				if (box.Has(a, v) || box.Has(b, v)) && !box.Has(both, v) {
					t.Fatalf("%v and %v make %v, which has not %v", a, b, both, v)
				}
			}
		}
	}
	for _, b := range boxes() {
		if grown := box.Grow(b, growth); !lies(b, grown) || box.Area(grown) < box.Area(b) {
			t.Errorf("%v grows to %v", b, grown)
		}
	}
}

// TestHitParts: P10.3, a ray that meets a part of a box meets the whole box, up to the same fraction.
func TestHitParts(t *testing.T) {
	all, rays := boxes(), []api.Ray{}
	for place, o := range append(grid(near, 0, -near), scattered(20, 12)...) {
		rays = append(rays, from(o, scattered(50, near)[place]), from(o, scattered(50, 9)[place]), from(o, made(func(axis int) int { return -list(o)[axis] })))
	}
	for place, a := range all {
		for step := 1; step < 40; step += 4 {
			both := box.Join(a, all[(place+step)%len(all)])
			for _, r := range rays {
				for _, f := range []api.Frac{{}, frac(0, 1), frac(1, 1), frac(2, 7)} {
					if box.Hit(a, r, f) && !box.Hit(both, r, f) {
						t.Fatalf("%v meets %v up to %v, but not %v", r, a, f, both)
					}
				}
			}
		}
	}
}
