package tri_test

import (
	"math/big"
	"testing"

	"skylight/api"
	"skylight/frac"
	"skylight/tri"
)

// from is the ray from o along d, which leaves nothing.
func from(o, d api.Vec) api.Ray { return api.Ray{O: o, D: d, From: -1} }

// fraction is n / d.
func fraction(n, d int) api.Frac { return api.Frac{N: n, D: d} }

// hit is tri.Hit of all corners.
func hit(s triangle, r api.Ray) (api.Frac, bool) { return tri.Hit(s.a, s.b, s.c, r) }

// determinant is the exact one of three columns.
func determinant(a, b, c api.Vec) *big.Int {
	all := new(big.Int)
	for axis, n := range list(a) {
		next, last := (axis+1)%3, (axis+2)%3
		plus := new(big.Int).Mul(exact(list(b)[next]), exact(list(c)[last]))
		minus := new(big.Int).Mul(exact(list(b)[last]), exact(list(c)[next]))
		all.Add(all, plus.Mul(plus.Sub(plus, minus), exact(n)))
	}
	return all
}

// met is what Hit answers of places and a near D: the numbers t, u and v for which O + t D is A + u (B - A) + v (C - A), solved by Cramer's rule.
func met(s triangle, r api.Ray) (api.Frac, bool) {
	zero := api.Vec{}
	ba, ca, way := minus(s.a, s.b), minus(s.a, s.c), minus(s.a, r.O)
	below := determinant(r.D, ba, ca)
	t, u, v := determinant(way, ba, ca), determinant(r.D, way, ca), determinant(r.D, ba, way)
	if below.Sign() < 0 {
		for _, n := range []*big.Int{below, t, u, v} {
			n.Neg(n)
		}
	}
	if below.Sign() == 0 || r.D == zero || t.Sign() <= 0 || u.Sign() < 0 || v.Sign() < 0 || u.Add(u, v).Cmp(below) > 0 {
		return api.Frac{}, false
	}
	return fraction(int(t.Int64()), int(below.Int64())), true
}

// check compares Hit with what the definition says, and tells whether the ray meets the triangle.
func check(t *testing.T, s triangle, r api.Ray) bool {
	t.Helper()
	got, ok := hit(s, r)
	if want, is := met(s, r); got != want || ok != is {
		t.Fatalf("%v is met by %v: %v, %t, not %v, %t", s, r, got, ok, want, is)
	}
	return ok
}

// TestHit: P11.2, by cases: the chapter's triangle, from where and along what it is met, and at which fraction.
func TestHit(t *testing.T) {
	s, miss := triangle{of(0, 0, 0), of(4, 0, 0), of(0, 4, 0)}, api.Frac{}
	for _, c := range []struct {
		o, d api.Vec
		want api.Frac
	}{
		{of(1, 1, -5), of(0, 0, 1), fraction(80, 16)}, {of(3, 3, -5), of(0, 0, 1), miss}, // the chapter's example
		{of(1, 1, 5), of(0, 0, -1), fraction(80, 16)}, {of(3, 3, 5), of(0, 0, -1), miss}, {of(1, 1, -5), of(0, 0, 3), fraction(80, 48)}, {of(0, 0, 7), of(1, 1, -7), fraction(112, 112)}, // from both sides
		{of(1, 1, -5), of(0, 0, -1), miss}, {of(1, 1, 5), of(0, 0, 1), miss}, {of(1, 1, 5), of(3, -2, 9), miss}, // behind
		{of(1, 1, 0), of(0, 0, 1), miss}, {of(1, 1, 0), of(1, 0, -1), miss}, {of(0, 0, 0), of(1, 1, 1), miss}, {of(9, 9, 0), of(-1, -1, 1), miss}, // from the plane
		{of(1, 1, 0), of(1, 0, 0), miss}, {of(-1, 1, 0), of(1, 0, 0), miss}, {of(-1, 0, 0), of(1, 0, 0), miss}, {of(9, 9, 0), of(-1, -1, 0), miss}, // in the plane
		{of(1, 1, 1), of(1, 0, 0), miss}, {of(-1, 1, -1), of(1, 0, 0), miss}, {of(9, 9, 1), of(-1, -1, 0), miss}, // beside it
		{of(0, 0, -5), of(0, 0, 1), fraction(80, 16)}, {of(4, 0, -5), of(0, 0, 1), fraction(80, 16)}, {of(0, 4, -5), of(0, 0, 1), fraction(80, 16)}, // corners
		{of(2, 0, -5), of(0, 0, 1), fraction(80, 16)}, {of(0, 1, -5), of(0, 0, 1), fraction(80, 16)}, {of(3, 1, -5), of(0, 0, 1), fraction(80, 16)}, // edges
		{of(-1, 0, -5), of(0, 0, 1), miss}, {of(0, -1, -5), of(0, 0, 1), miss}, {of(5, 0, -5), of(0, 0, 1), miss}, {of(4, 1, -5), of(0, 0, 1), miss}, {of(4, -1, -5), of(0, 0, 1), miss}, {of(0, 5, -5), of(0, 0, 1), miss}, {of(-1, 5, -5), of(0, 0, 1), miss}, {of(2, 3, -5), of(0, 0, 1), miss},
		{of(1, 1, -5), of(0, 0, 0), miss}, {of(1, 1, 0), of(0, 0, 0), miss}, {of(0, 0, 0), of(0, 0, 0), miss}, // going nowhere
		{of(1, 1, -edge), of(0, 0, 1), fraction(16*edge, 16)}, {of(1, 1, -edge), of(0, 0, near), fraction(16*edge, 16*near)}, {of(1, 1, edge), of(0, 0, -near), fraction(16*edge, 16*near)},
		{of(1, 1, -edge-1), of(0, 0, 1), miss}, {of(1, 1, edge+1), of(0, 0, -1), miss}, {of(1, edge+1, edge), of(0, -edge, -edge), miss}, {of(1, edge, edge), of(0, 1-edge, -edge), fraction(16*edge, 16*edge)}, // O is no place, or just one
		{of(1, 1, -5), of(0, 0, near+1), miss}, {of(1, 1, 5), of(0, 0, -near-1), miss}, {of(1, 1, -5), of(near+1, 0, near+1), miss}, // D is not near
	} {
		got, ok := hit(s, from(c.o, c.d))
		if got != c.want || ok != (c.want != miss) {
			t.Errorf("from %v along %v, it is met: %v, %t", c.o, c.d, got, ok)
		}
	}
}

// TestHitSmall: P11.2, small triangles, flat ones among them, by every ray from about them along small ways.
func TestHitSmall(t *testing.T) {
	all := append(grouped(grid(0, 1, 3)), grouped(scattered(12, 3, 1))...)
	all = append(all, triangle{of(1, 1, 1), of(1, 1, 1), of(0, 2, 0)}, triangle{of(0, 0, 0), of(1, 1, 1), of(2, 2, 2)}, triangle{of(2, 0, 0), of(2, 0, 0), of(2, 0, 0)})
	hits, misses := 0, 0
	for _, s := range all {
		for _, o := range grid(-1, 0, 2, 3) {
			for _, d := range grid(-2, -1, 0, 1) {
				if check(t, s, from(o, d)) {
					hits++
				} else {
					misses++
				}
			}
		}
	}
	if hits < 1000 || misses < 1000 {
		t.Errorf("there are %d hits and %d misses", hits, misses)
	}
}

// TestHitWide: P11.2, triangles of every size by rays from everywhere, which go to their points, by twice the way, and just past them.
func TestHitWide(t *testing.T) {
	starts := append(grid(-edge, 0, edge), scattered(40, edge, 1)...)
	past := []api.Vec{{}, of(1, 0, 0), of(0, -1, 0), of(0, 0, 1), of(-1, 1, 0), of(1, -1, -1), of(0, 7, -7)}
	hits, misses := 0, 0
	for _, s := range triangles() {
		points := []api.Vec{s.a, s.b, s.c, point(s, one/2, one/2), point(s, 20000, 30000), point(s, one, 1), of(0, 0, 0)}
		for place, o := range starts {
			for step := range 3 {
				way := plus(minus(points[(place+3*step)%len(points)], o), past[(place+step)%len(past)])
				way = made(func(axis int) int { return max(min(list(way)[axis]*(step%2+1), near), -near) })
				if check(t, s, from(o, way)) {
					hits++
				} else {
					misses++
				}
			}
		}
	}
	if hits < 1000 || misses < 1000 {
		t.Errorf("there are %d hits and %d misses", hits, misses)
	}
}

// TestHitBeside: P11.2, a ray that goes exactly through a corner or an edge meets the triangle, and one that passes it by the least that there is does not.
func TestHitBeside(t *testing.T) {
	for _, n := range []int{2, 10, 4096, edge} {
		s, up := triangle{of(0, 0, 0), of(n, 0, 0), of(0, n, 0)}, near
		for _, c := range []struct {
			o    api.Vec
			x, y int
			want bool
		}{
			{of(0, 0, 0), 0, 0, true}, {of(0, 0, 0), 1, 0, true}, {of(0, 0, 0), 0, 1, true}, {of(0, 0, 0), -1, 0, false}, {of(0, 0, 0), 0, -1, false}, {of(0, 0, 0), 1, -1, false}, {of(0, 0, 0), -1, 1, false},
			{of(n, 0, 0), 0, 0, true}, {of(n, 0, 0), -1, 0, true}, {of(n, 0, 0), -1, 1, true}, {of(n, 0, 0), 1, 0, false}, {of(n, 0, 0), 0, 1, false}, {of(n, 0, 0), 0, -1, false}, {of(n, 0, 0), -1, -1, false}, {of(n, 0, 0), -1, 2, false},
			{of(0, n, 0), 0, 0, true}, {of(0, n, 0), 0, -1, true}, {of(0, n, 0), 1, -1, true}, {of(0, n, 0), 0, 1, false}, {of(0, n, 0), 1, 0, false}, {of(0, n, 0), -1, 0, false}, {of(0, n, 0), -1, -1, false}, {of(0, n, 0), 2, -1, false},
			{of(n/2, 0, 0), 0, 0, true}, {of(n/2, 0, 0), 0, 1, true}, {of(n/2, 0, 0), 1, 0, true}, {of(n/2, 0, 0), 0, -1, false}, {of(n/2, 0, 0), 5, -1, false},
			{of(0, n/2, 0), 0, 0, true}, {of(0, n/2, 0), 1, 0, true}, {of(0, n/2, 0), 0, -1, true}, {of(0, n/2, 0), -1, 0, false}, {of(0, n/2, 0), -1, 5, false},
			{of(n/2, n/2, 0), 0, 0, true}, {of(n/2, n/2, 0), -1, 0, true}, {of(n/2, n/2, 0), -3, 3, true}, {of(n/2, n/2, 0), 1, 0, false}, {of(n/2, n/2, 0), 0, 1, false}, {of(n/2, n/2, 0), -3, 4, false},
		} {
			for _, away := range []int{1, -1} {
				for _, s := range orders(s) {
					r := from(plus(c.o, of(0, 0, -away)), of(c.x, c.y, away*up))
					if got := check(t, s, r); got != c.want {
						t.Errorf("%v is met by %v: %t", s, r, got)
					}
				}
			}
		}
	}
}

// TestHitFlat: P11.2, what has no area is not met, not even through its corners.
func TestHitFlat(t *testing.T) {
	for _, s := range flats() {
		for _, p := range []api.Vec{s.a, s.b, s.c, point(s, one/2, one/2)} {
			for _, o := range append(grid(-edge, 0, edge), scattered(10, edge, 1)...) {
				if got, ok := hit(s, from(o, minus(p, o))); got != (api.Frac{}) || ok {
					t.Errorf("%v is met from %v through %v: %v, %t", s, o, p, got, ok)
				}
			}
		}
	}
}

// TestHitFrom: P11.2, what a ray leaves does not matter.
func TestHitFrom(t *testing.T) {
	for _, leaves := range []int{-1, 0, 1, 1023, most, least} {
		to, past := api.Ray{O: of(1, 1, -5), D: of(0, 0, 1), From: leaves}, api.Ray{O: of(3, 3, -5), D: of(0, 0, 1), From: leaves}
		s := triangle{of(0, 0, 0), of(4, 0, 0), of(0, 4, 0)}
		if got, ok := hit(s, to); got != fraction(80, 16) || !ok {
			t.Errorf("a ray that leaves %d meets it: %v, %t", leaves, got, ok)
		}
		if got, ok := hit(s, past); got != (api.Frac{}) || ok {
			t.Errorf("a ray past it that leaves %d meets it: %v, %t", leaves, got, ok)
		}
	}
}

// TestHitStrays: P11.2, nothing is met with a corner or an O that is no place, or with a D that is not near.
func TestHitStrays(t *testing.T) {
	misses := func(s triangle, r api.Ray) {
		if got, ok := hit(s, r); got != (api.Frac{}) || ok {
			t.Errorf("%v is met by %v: %v, %t", s, r, got, ok)
		}
	}
	for _, s := range broken() {
		for _, o := range append(grid(-edge, 0, edge), of(edge, edge, edge-3), of(1, 1, 2-edge)) {
			for _, d := range append(grid(-1, 0, 1), minus(s.a, o), minus(s.b, o), minus(s.c, o)) {
				misses(s, from(o, d))
			}
		}
	}
	top := triangle{of(edge-9, edge-9, edge-9), of(edge, edge, edge-9), of(edge-9, edge, edge-9)}
	for _, s := range []triangle{top, {of(-edge, -edge, 0), of(edge, -edge, 0), of(0, edge, 0)}} {
		for _, v := range strays() {
			misses(s, from(v, of(0, 0, 1)))
			misses(s, from(v, of(0, 0, -1)))
			misses(s, from(v, minus(of(edge-5, edge-3, edge-9), v)))
			misses(s, from(v, v))
		}
	}
	for _, o := range []api.Vec{of(edge-8, edge-4, edge+1), of(edge+1, edge-4, edge), of(edge-4, edge+1, edge)} {
		misses(top, from(o, minus(of(edge-8, edge-4, edge-9), o)))
	}
	floor := triangle{of(-edge, -edge, 0), of(edge, -edge, 0), of(0, edge, 0)}
	for _, n := range []int{near + 1, 2 * near, 1 << 32, 1 << 62, most, -near - 1, -2 * near, -1 << 32, -1 << 62, least + 1, least} {
		for _, d := range []api.Vec{of(0, 0, n), of(n, 0, 1), of(0, n, 1), of(n, 0, -1), of(0, n, -1), of(n, n, n)} {
			misses(floor, from(of(0, 0, -1), d))
			misses(floor, from(of(0, 0, 1), d))
		}
	}
}

// TestHitOrders: P11.3, the order of the corners does not matter for whether and where a triangle is met.
func TestHitOrders(t *testing.T) {
	for _, s := range triangles() {
		for place, o := range append(grid(-edge, 1, edge), scattered(30, edge, 1)...) {
			p := []api.Vec{s.a, point(s, one/3, one/3), point(s, one/2, 0), of(0, 0, 0)}[place%4]
			r := from(o, minus(p, o))
			want, is := hit(s, r)
			for _, other := range orders(s) {
				if got, ok := hit(other, r); got != want || ok != is {
					t.Fatalf("%v is met by %v: %v, %t, but %v: %v, %t", s, r, want, is, other, got, ok)
				}
			}
		}
	}
}

// TestHitMoved: P11.3, moving everything does not matter for whether and where a triangle is met.
func TestHitMoved(t *testing.T) {
	moves := append(grid(-edge/2, 1, edge/2), scattered(20, edge/2, 1)...)
	all := append(grouped(scattered(40, edge/2, 1)), grouped(scattered(20, 50, 1))...)
	for place, o := range append(grid(-edge/2, 0, edge/2), scattered(30, edge/2, 1)...) {
		for turn, s := range all {
			p := []api.Vec{s.a, point(s, one/3, one/3), point(s, one/2, one/2), of(0, 0, 0)}[(place+turn)%4]
			r := from(o, minus(p, o))
			want, is := hit(s, r)
			for step := range 4 {
				by := moves[(place+turn+7*step)%len(moves)]
				moved := triangle{plus(s.a, by), plus(s.b, by), plus(s.c, by)}
				if got, ok := hit(moved, from(plus(o, by), r.D)); got != want || ok != is {
					t.Fatalf("%v is met by %v: %v, %t, but moved by %v: %v, %t", s, r, want, is, by, got, ok)
				}
			}
		}
	}
}

// TestHitPoints: P11.3, a point of a triangle is met from every point beside its plane, and from none in it.
func TestHitPoints(t *testing.T) {
	const parts = 8 // corners are multiples of it, so that parts of the sides are whole
	all := append(grouped(scattered(20, edge, parts)), grouped(scattered(12, 10*parts, parts))...)
	for _, s := range append(all, triangle{of(edge, edge, -edge), of(edge, -edge, edge), of(-edge, edge, edge)}) {
		for _, w := range [][2]int{{0, 0}, {8, 0}, {0, 8}, {4, 0}, {0, 3}, {5, 3}, {1, 1}, {2, 4}, {1, 6}} {
			p := tri.At(s.a, s.b, s.c, w[0]*one/parts, w[1]*one/parts)
			for _, o := range append(append(grid(-edge, 0, edge), scattered(20, edge, 1)...), s.a, s.b, tri.At(s.a, s.b, s.c, one/4, one/4)) {
				beside := determinant(minus(s.b, s.a), minus(s.c, s.a), minus(o, s.a)).Sign() != 0
				way := minus(p, o)
				got, ok := hit(s, from(o, way))
				if ok != beside || ok && !frac.Same(got, fraction(1, 1)) {
					t.Fatalf("%v of %v is met from %v: %v, %t", p, s, o, got, ok)
				}
				if max(way.X, -way.X, way.Y, -way.Y, way.Z, -way.Z) > near/2 {
					continue
				}
				if got, ok := hit(s, from(o, plus(way, way))); ok != beside || ok && !frac.Same(got, fraction(1, 2)) {
					t.Fatalf("%v of %v is met from %v, by twice the way: %v, %t", p, s, o, got, ok)
				}
			}
		}
	}
}
