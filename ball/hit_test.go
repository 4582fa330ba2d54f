package ball_test

import (
	"math/big"
	"testing"

	"skylight/api"
	"skylight/ball"
	"skylight/frac"
)

// from is the ray from o along d, which leaves nothing.
func from(o, d api.Vec) api.Ray { return api.Ray{O: o, D: d, From: -1} }

// fraction is n / d.
func fraction(n, d int) api.Frac { return api.Frac{N: n, D: d} }

// distance is the square of D times how far the ray is from c at f.
func distance(c api.Vec, x api.Ray, f api.Frac) *big.Int {
	all := new(big.Int)
	for axis, away := range list(minus(x.O, c)) {
		at := new(big.Int).Mul(exact(away), exact(f.D))
		at.Add(at, new(big.Int).Mul(exact(list(x.D)[axis]), exact(f.N)))
		all.Add(all, at.Mul(at, at))
	}
	return all
}

// outside tells whether the ray is outside of s at f, exactly.
func outside(s sphere, x api.Ray, f api.Frac) bool {
	reach := new(big.Int).Mul(exact(s.r), exact(f.D))
	return distance(s.c, x, f).Cmp(reach.Mul(reach, reach)) > 0
}

// met is what Hit answers of balls, places and a near D, by exact numbers, as the definition has it.
func met(s sphere, x api.Ray) (api.Frac, bool) {
	away := minus(x.O, s.c)
	a, b, q := dot(x.D, x.D), dot(away, x.D), dot(away, away)
	q.Sub(q, square(s.r))
	inner := new(big.Int).Mul(b, b)
	inner.Sub(inner, new(big.Int).Mul(a, q))
	if a.Sign() == 0 || inner.Sign() < 0 || q.Sign() > 0 && b.Sign() >= 0 {
		return api.Frac{}, false
	}
	n, root := new(big.Int).Neg(b), new(big.Int).Sqrt(inner)
	if q.Sign() > 0 {
		n.Sub(n, root)
	} else {
		n.Add(n, root)
	}
	if n.Sign() <= 0 {
		return api.Frac{}, false
	}
	return fraction(int(n.Int64()), int(a.Int64())), true
}

// counts holds how many rays meet a ball from outside, how many pass it, how many meet it from inside, and how many do not.
type counts [4]int

// enough tells whether there are at least so many of each kind; those that begin inside and do not meet it are rare.
func (c counts) enough(count, rare int) bool {
	return c[0] >= count && c[1] >= count && c[2] >= count && c[3] >= rare
}

// check compares Hit with what the definition says, asks where the ray is there and one part of its divisor further outside, and counts it.
func check(t *testing.T, s sphere, x api.Ray, all *counts) {
	t.Helper()
	got, ok := ball.Hit(s.c, s.r, x)
	if want, is := met(s, x); got != want || ok != is {
		t.Fatalf("%v is met by %v: %v, %t, not %v, %t", s, x, got, ok, want, is)
	}
	kind, step := 0, -1
	if !outside(s, x, fraction(0, 1)) {
		kind, step = 2, 1
	}
	if !ok {
		all[kind+1]++
		return
	}
	all[kind]++
	if outside(s, x, got) || !outside(s, x, fraction(got.N+step, got.D)) {
		t.Fatalf("%v is met by %v at %v, which is outside, or what is next to it is not", s, x, got)
	}
}

// TestHit: P12.1, by cases: the chapter's ball, from where and along what it is met, and at which fraction.
func TestHit(t *testing.T) {
	miss := api.Frac{}
	for _, c := range []struct {
		o, d api.Vec
		want api.Frac
	}{
		{of(0, 0, -10), of(0, 0, 2), fraction(12, 4)}, // the chapter's example
		{of(0, 0, -10), of(0, 0, 1), fraction(6, 1)}, {of(0, 0, -10), of(0, 0, 100), fraction(600, 10000)}, {of(0, 10, 0), of(0, -1, 0), fraction(6, 1)}, {of(-5, 0, 0), of(3, 0, 0), fraction(3, 9)}, {of(8, 0, 3), of(-1, 0, 0), fraction(6, 1)},
		{of(0, 0, -10), of(1, 0, 4), fraction(27, 17)}, {of(0, 0, 10), of(1, 0, -4), fraction(27, 17)}, {of(3, 2, 2), of(-1, 0, 0), fraction(1, 1)}, {of(4, 0, -10), of(-1, 0, 1000), fraction(9722, 1000001)}, // roots that are not whole
		{of(0, 0, -10), of(0, 0, -2), miss}, {of(0, 0, 10), of(0, 0, 2), miss}, {of(5, 0, 0), of(1, 0, 0), miss}, {of(5, 0, 0), of(7, -1, 1), miss}, {of(5, 0, 0), of(0, 1, 0), miss}, {of(4, 0, 1), of(0, 0, 1), miss}, // away
		{of(4, 0, -10), of(0, 0, 1), fraction(10, 1)}, {of(4, 0, -10), of(0, 0, 2), fraction(20, 4)}, {of(0, -4, 10), of(0, 0, -1), fraction(10, 1)}, {of(-7, 4, 0), of(5, 0, 0), fraction(35, 25)}, {of(4, 0, -1), of(0, 0, 1), fraction(1, 1)}, // only touching
		{of(4, 1, -10), of(0, 0, 1), miss}, {of(5, 0, -10), of(0, 0, 1), miss}, {of(4, 0, -10), of(1, 0, 1000), miss}, {of(4, 0, -10), of(0, 1, near), miss}, {of(3, 3, -10), of(0, 0, 1), miss}, {of(4, 0, -10), of(0, 0, -1), miss}, {of(4, 1, -1), of(0, 0, 1), miss}, // beside it
		{of(0, 0, 0), of(0, 0, 1), fraction(4, 1)}, {of(0, 0, 0), of(0, 0, -3), fraction(12, 9)}, {of(0, 0, 0), of(1, 1, 1), fraction(6, 3)}, {of(0, 0, 0), of(1, -1, 0), fraction(5, 2)}, // from the center
		{of(1, 0, 0), of(1, 0, 0), fraction(3, 1)}, {of(1, 0, 0), of(-1, 0, 0), fraction(5, 1)}, {of(1, 0, 0), of(0, 1, 0), fraction(3, 1)}, {of(1, 0, 0), of(-2, 0, 0), fraction(10, 4)}, {of(3, 2, 1), of(-3, -2, -1), fraction(28, 14)}, // from inside
		{of(3, 2, 1), of(3, 2, 1), miss}, {of(3, 2, 1), of(300, 200, 100), fraction(96, 140000)}, {of(3, 2, 1), of(5, 0, 0), fraction(1, 25)}, {of(3, 2, 1), of(1, 0, 0), miss}, // less than the least part of the divisor
		{of(4, 0, 0), of(-1, 0, 0), fraction(8, 1)}, {of(4, 0, 0), of(-1, 7, 0), fraction(8, 50)}, {of(0, 0, -4), of(0, 0, 2), fraction(16, 4)}, {of(0, -4, 0), of(-1000, 1, 1000), fraction(8, 2000001)}, // from the surface, inward
		{of(4, 0, 0), of(1, 0, 0), miss}, {of(4, 0, 0), of(1, -7, 0), miss}, {of(0, 0, -4), of(5, 5, -1), miss}, {of(4, 0, 0), of(0, 1, 0), miss}, {of(4, 0, 0), of(0, -3, near), miss}, {of(0, 0, -4), of(1, -1, 0), miss}, // outward, and along it
		{of(0, 0, -10), of(0, 0, 0), miss}, {of(4, 0, 0), of(0, 0, 0), miss}, {of(1, 0, 0), of(0, 0, 0), miss}, {of(0, 0, 0), of(0, 0, 0), miss}, // going nowhere
		{of(0, 0, -edge), of(0, 0, 1), fraction(edge-4, 1)}, {of(0, 0, edge), of(0, 0, -near), fraction(near*(edge-4), near*near)}, {of(0, 0, -edge-1), of(0, 0, 1), miss}, {of(0, edge+1, 0), of(0, -1, 0), miss}, {of(edge+1, 0, 0), of(-near, 0, 0), miss}, // O is no place, or just one
		{of(0, 0, -10), of(0, 0, near), fraction(6*near, near*near)}, {of(0, 0, -10), of(0, 0, near+1), miss}, {of(0, 0, 10), of(0, 0, -near-1), miss}, {of(0, 0, 0), of(near+1, 0, 0), miss}, {of(4, 0, 0), of(-near-1, 0, 0), miss}, // D is not near, or just is
	} {
		got, ok := ball.Hit(of(0, 0, 0), 4, from(c.o, c.d))
		if got != c.want || ok != (c.want != miss) {
			t.Errorf("from %v along %v, it is met: %v, %t", c.o, c.d, got, ok)
		}
	}
}

// TestHitGreatest: P12.1, the greatest numbers that places, a near D and a radius allow.
func TestHitGreatest(t *testing.T) {
	high, low := of(edge, edge, edge), of(-edge, -edge, -edge)
	for _, c := range []struct {
		s    sphere
		o, d api.Vec
		want api.Frac
	}{
		{sphere{high, thick}, low, of(near, near, near), fraction(2822432382623, 3298534883328)}, {sphere{low, thick}, high, of(-near, -near, -near), fraction(2822432382623, 3298534883328)},
		{sphere{high, thin}, low, of(near, near, near), fraction(3298527618581, 3298534883328)}, {sphere{high, thin}, low, of(near, near, near-1), fraction(3298526722966, 3298532786177)}, {sphere{high, thick}, low, of(near, near, near-1), fraction(2822431485398, 3298532786177)},
		{sphere{of(0, 0, 0), thick}, of(0, 0, 0), of(near, near, near), fraction(476102500705, 3298534883328)}, {sphere{of(0, 0, 0), thick}, of(0, 0, 0), of(near, near, near-1), fraction(476102349356, 3298532786177)},
		{sphere{high, thick}, low, of(-near, -near, -near), fraction(0, 0)}, {sphere{high, thick}, low, of(near, near, -near), fraction(0, 0)}, {sphere{high, thin}, low, of(near, near, near-16), fraction(0, 0)},
	} {
		got, ok := ball.Hit(c.s.c, c.s.r, from(c.o, c.d))
		if got != c.want || ok != (c.want.D != 0) {
			t.Errorf("%v is met from %v along %v: %v, %t", c.s, c.o, c.d, got, ok)
		}
		check(t, c.s, from(c.o, c.d), new(counts))
	}
}

// TestHitSmall: P12.1 and P12.3, small balls by every ray from about them, and from within, along small ways.
func TestHitSmall(t *testing.T) {
	all := new(counts)
	for _, s := range []sphere{{of(0, 0, 0), 4}, {of(2, -3, 1), 4}, {of(-100, 200, 30), 5}, {of(1, 1, 1), 6}, {of(0, 0, 0), 9}} {
		for _, away := range grid(-10, -5, -4, -3, -1, 0, 2, 4) {
			for _, d := range grid(-5, -1, 0, 2) {
				check(t, s, from(plus(s.c, away), d), all)
			}
		}
	}
	if !all.enough(5000, 500) {
		t.Errorf("there are %v", *all)
	}
}

// TestHitWide: P12.1 and P12.3, balls of every size by rays from everywhere, through their points and past them.
func TestHitWide(t *testing.T) {
	all, turns := new(counts), append(scattered(7, near), of(0, 0, 0))
	for _, s := range balls() {
		starts := append(append(narrow(), scattered(60, edge)...), s.c)
		for _, by := range append(scattered(30, s.r), of(s.r, 0, 0), of(0, -s.r, 0), of(0, 0, s.r)) {
			starts = append(starts, held(plus(s.c, by), edge))
		}
		points := scattered(12, s.r)
		for place, o := range starts {
			for step, by := range points {
				way := minus(plus(s.c, times(by, 1+step%2)), o)
				switch (place + step) % 4 {
				case 1:
					way = times(way, 2)
				case 2:
					way = turns[(place+step)%len(turns)]
				case 3:
					way = times(by, -1)
				}
				check(t, s, from(o, held(way, near)), all)
			}
		}
	}
	if !all.enough(3000, 50) {
		t.Errorf("there are %v", *all)
	}
}

// TestHitBeside: P12.1, a ray that only touches a ball meets it where it is nearest to the center, and one that passes it by the least that there is does not.
func TestHitBeside(t *testing.T) {
	for _, s := range balls() {
		for _, far := range []int{1, 10, thick} {
			for _, long := range []int{1, 3, near} {
				side := s.r
				if s.c.X > 0 {
					side = -s.r
				}
				towards := 1
				if s.c.Y > 0 {
					towards = -1
				}
				o, d := plus(s.c, of(side, far*towards, 0)), of(0, -long*towards, 0)
				if got, ok := ball.Hit(s.c, s.r, from(o, d)); got != fraction(far*long, long*long) || !ok {
					t.Errorf("%v is touched from %v along %v: %v, %t", s, o, d, got, ok)
				}
				for _, beside := range []api.Vec{of(side/s.r, 0, 0), of(0, 0, -1), of(0, 0, 1)} {
					o := plus(o, beside)
					if max(o.Z, -o.Z) > edge {
						continue
					}
					if got, ok := ball.Hit(s.c, s.r, from(o, d)); got != (api.Frac{}) || ok {
						t.Errorf("%v is met from %v along %v: %v, %t", s, o, d, got, ok)
					}
				}
			}
		}
	}
}

// TestHitFrom: P12.1, what a ray leaves does not matter, neither to Hit nor to Through.
func TestHitFrom(t *testing.T) {
	for _, leaves := range []int{-1, 0, 1, 1023, most, least} {
		x, away := api.Ray{O: of(0, 0, -10), D: of(0, 0, 2), From: leaves}, api.Ray{O: of(0, 0, -10), D: of(0, 0, -2), From: leaves}
		if got, ok := ball.Hit(of(0, 0, 0), 4, x); got != fraction(12, 4) || !ok {
			t.Errorf("a ray that leaves %d meets it: %v, %t", leaves, got, ok)
		}
		if got, ok := ball.Through(of(0, 0, 0), 4, x); got != fraction(40, 4) || !ok {
			t.Errorf("a ray that leaves %d passes through it: %v, %t", leaves, got, ok)
		}
		for _, hit := range []func(api.Vec, int, api.Ray) (api.Frac, bool){ball.Hit, ball.Through} {
			if got, ok := hit(of(0, 0, 0), 4, away); got != (api.Frac{}) || ok {
				t.Errorf("a ray away from it that leaves %d meets it: %v, %t", leaves, got, ok)
			}
		}
	}
}

// misses tells of a ray that meets what it must not, or passes through it.
func misses(t *testing.T, s sphere, x api.Ray) {
	t.Helper()
	if got, ok := ball.Hit(s.c, s.r, x); got != (api.Frac{}) || ok {
		t.Errorf("%v is met by %v: %v, %t", s, x, got, ok)
	}
	if got, ok := ball.Through(s.c, s.r, x); got != (api.Frac{}) || ok {
		t.Errorf("%v is passed through by %v: %v, %t", s, x, got, ok)
	}
}

// TestStrays: P12.1, no ray meets what is no ball, or passes through it, and none that begins at what is no place, or goes along a D that is not near, or is zero.
func TestStrays(t *testing.T) {
	for _, s := range broken() {
		for _, o := range append(narrow(), of(0, 0, -10), s.c, plus(s.c, of(0, 1, 5))) {
			for _, d := range append(grid(-1, 0, 1), minus(s.c, o), minus(of(0, 0, 0), o)) {
				misses(t, s, from(o, d))
			}
		}
	}
	for _, s := range balls() {
		for _, v := range strays() {
			for _, d := range []api.Vec{minus(s.c, v), of(0, 0, 1), of(0, -1, 0), of(1, 1, -1), of(-1, 0, 0), v} {
				misses(t, s, from(v, d))
			}
		}
		for _, o := range append(narrow(), s.c) {
			misses(t, s, from(o, of(0, 0, 0)))
			for _, n := range []int{near + 1, 2 * near, 1 << 32, 1 << 62, most, -near - 1, -2 * near, -1 << 32, -1 << 62, least + 1, least} {
				for _, d := range []api.Vec{of(n, 0, 0), of(0, n, 0), of(0, 0, n), of(n, -1, 0), of(0, n, -1), of(1, 1, n), of(n, n, n)} {
					misses(t, s, from(o, d))
				}
			}
		}
	}
	for _, n := range odd() {
		misses(t, sphere{of(0, 0, 0), n}, from(of(0, 0, -10), of(0, 0, 2)))
		misses(t, sphere{of(0, 0, 0), n}, from(of(0, 0, -4), of(0, 0, 1)))
	}
	for _, at := range []int{edge + 1, edge + thick, edge + 2} {
		misses(t, sphere{of(edge, 0, 0), thick}, from(of(at, 0, 0), of(-1, 0, 0)))
		misses(t, sphere{of(at, 0, 0), thick}, from(of(edge, 0, 0), of(-1, 0, 0)))
		misses(t, sphere{of(at, 0, 0), thick}, from(of(edge, 0, 0), of(1, 0, 0)))
		misses(t, sphere{of(0, -at, 0), 4}, from(of(0, -edge+9, 0), of(0, -1, 0)))
		misses(t, sphere{of(0, 0, at), 4}, from(of(0, 0, -edge), of(0, 0, 1)))
	}
}

// TestThrough: P12.1, by cases: inward, outward, and along the surface, also where O does not lie on it.
func TestThrough(t *testing.T) {
	miss := api.Frac{}
	for _, c := range []struct {
		o, d api.Vec
		want api.Frac
	}{
		{of(0, 0, -4), of(0, 0, 1), fraction(8, 1)}, {of(0, 0, -4), of(0, 0, 2), fraction(16, 4)}, {of(4, 0, 0), of(-1, 0, 0), fraction(8, 1)}, {of(4, 0, 0), of(-1, 7, 0), fraction(8, 50)}, {of(0, -4, 0), of(-1000, 1, 1000), fraction(8, 2000001)}, // inward
		{of(4, 0, 0), of(1, 0, 0), miss}, {of(0, 0, -4), of(0, 0, -1), miss}, {of(4, 0, 0), of(1, -7, 0), miss}, {of(0, 0, -4), of(5, 5, -1), miss}, // outward
		{of(4, 0, 0), of(0, 1, 0), miss}, {of(4, 0, 0), of(0, -3, near), miss}, {of(0, 0, -4), of(1, -1, 0), miss}, // along the surface
		{of(0, 0, -10), of(0, 0, 2), fraction(40, 4)}, {of(0, 0, -5), of(0, 0, 1), fraction(10, 1)}, {of(9, 0, -10), of(0, 0, 1), fraction(20, 1)}, {of(3, 2, 2), of(-1, 0, 0), fraction(6, 1)}, {of(5, 0, 0), of(-1, 3, 0), fraction(10, 10)}, // from outside, also past it
		{of(0, 0, -3), of(0, 0, 1), fraction(6, 1)}, {of(3, 2, 1), of(-1, 0, 0), fraction(6, 1)}, {of(3, 2, 1), of(1, -2, 0), fraction(2, 5)}, {of(1, 0, 0), of(-1, -1, -1), fraction(2, 3)}, // from inside
		{of(0, 0, 0), of(0, 0, 1), miss}, {of(0, 0, 0), of(5, -7, 1), miss}, {of(3, 2, 1), of(3, 2, 1), miss}, {of(3, 2, 1), of(300, 200, 100), miss}, {of(1, 0, 0), of(0, 1, 0), miss}, {of(0, 0, -10), of(0, 0, -2), miss}, {of(0, 0, -10), of(1, 0, 0), miss},
		{of(0, 0, -4), of(0, 0, 0), miss}, {of(0, 0, -10), of(0, 0, 0), miss}, {of(0, 0, -4), of(0, 0, near), fraction(8*near, near*near)}, {of(0, 0, -4), of(0, 0, near+1), miss}, {of(4, 0, 0), of(-near-1, 0, 0), miss},
		{of(0, 0, -edge), of(0, 0, 1), fraction(near, 1)}, {of(0, 0, -edge-1), of(0, 0, 1), miss}, {of(edge, edge, edge), of(-near, -near, -near), fraction(3*near*near, 3*near*near)},
	} {
		got, ok := ball.Through(of(0, 0, 0), 4, from(c.o, c.d))
		if got != c.want || ok != (c.want != miss) {
			t.Errorf("from %v along %v, it is passed through: %v, %t", c.o, c.d, got, ok)
		}
	}
	high, low := of(edge, edge, edge), of(-edge, -edge, -edge)
	if got, ok := ball.Through(high, thick, from(low, of(near, near, near))); got != fraction(6*near*near, 3*near*near) || !ok {
		t.Errorf("the greatest one is %v, %t", got, ok)
	}
}

// TestThroughExact: P12.1 and P12.3, balls of every size by rays from everywhere, against the definition; both ends of the chord are equally far from the center.
func TestThroughExact(t *testing.T) {
	hits, fails := 0, 0
	for _, s := range balls() {
		starts := append(append(narrow(), scattered(80, edge)...), s.c)
		wide, small, into := scattered(len(starts), near), scattered(len(starts), 3), scattered(len(starts), s.r)
		for place, o := range starts {
			for _, d := range []api.Vec{minus(s.c, o), minus(o, s.c), wide[place], small[place], plus(minus(s.c, o), into[place])} {
				d = held(d, near)
				b := dot(minus(o, s.c), d)
				want, is := api.Frac{}, b.Sign() < 0
				if is {
					want = fraction(int(b.Int64())*-2, int(dot(d, d).Int64()))
				}
				got, ok := ball.Through(s.c, s.r, from(o, d))
				if got != want || ok != is {
					t.Fatalf("%v is passed through by %v: %v, %t, not %v, %t", s, from(o, d), got, ok, want, is)
				}
				if !ok {
					fails++
					continue
				}
				hits++
				if start := distance(s.c, from(o, d), fraction(0, got.D)); distance(s.c, from(o, d), got).Cmp(start) != 0 {
					t.Fatalf("the ends of the chord of %v through %v are not equally far away", from(o, d), s)
				}
			}
		}
	}
	if hits < 3000 || fails < 3000 {
		t.Errorf("there are %d hits and %d misses", hits, fails)
	}
}

// TestSurface: P12.1 and P12.3, from exactly on the surface Hit and Through answer the same, and what is at their fraction lies exactly on it too.
func TestSurface(t *testing.T) {
	hits, fails := 0, 0
	turns := append(append(grid(-1, 0, 1), scattered(10, near)...), scattered(20, 9)...)
	for way, length := range ways() {
		for _, n := range []int{4, 5, 1000, thick / length} {
			s := sphere{of(-70, 8, 5), n * length}
			if s.r > thick {
				continue
			}
			for _, d := range turns {
				x := from(plus(s.c, times(way, n)), d)
				got, ok := ball.Through(s.c, s.r, x)
				inward := dot(way, d).Sign() < 0
				if same, is := ball.Hit(s.c, s.r, x); got != same || ok != is || ok != inward {
					t.Fatalf("%v is met by %v: %v, %t, but passed through: %v, %t", s, x, same, is, got, ok)
				}
				if !ok {
					fails++
					continue
				}
				hits++
				reach := new(big.Int).Mul(exact(s.r), exact(got.D))
				if got.D < 1 || distance(s.c, x, got).Cmp(reach.Mul(reach, reach)) != 0 {
					t.Fatalf("%v is met by %v at %v, which is not on its surface", s, x, got)
				}
			}
		}
	}
	if hits < 1000 || fails < 1000 {
		t.Errorf("there are %d hits and %d misses", hits, fails)
	}
}

// TestCenter: P12.3, a ray to the center meets the ball from everywhere, before the center if it begins outside and behind it if it begins inside; so does every ray from the center.
func TestCenter(t *testing.T) {
	for _, s := range balls() {
		starts := append(append(narrow(), scattered(200, edge)...), scattered(50, 9)...)
		for _, by := range scattered(50, s.r/2) {
			starts = append(starts, held(plus(s.c, by), edge))
		}
		for _, o := range starts {
			if o == s.c {
				continue
			}
			for _, long := range []int{1, 2, 7} {
				d := times(minus(s.c, o), long)
				if extent(d) > near {
					continue
				}
				x := from(o, d)
				got, ok := ball.Hit(s.c, s.r, x)
				if !ok || outside(s, x, fraction(0, 1)) != frac.Less(got, fraction(1, long)) {
					t.Fatalf("%v is met by %v, through its center: %v, %t", s, x, got, ok)
				}
			}
		}
		for _, d := range append(append(grid(-near, -1, 0, 1, near), scattered(50, near)...), scattered(50, 5)...) {
			if got, ok := ball.Hit(s.c, s.r, from(s.c, d)); ok != (d != api.Vec{}) || got.N < 0 {
				t.Fatalf("%v is met from its center along %v: %v, %t", s, d, got, ok)
			}
		}
	}
}

// TestChord: P12.3, both ends of a chord are equally far from the center, whether both are met from inside or both from outside.
func TestChord(t *testing.T) {
	inner, outer := 0, 0
	wide, small := scattered(60, near/2), scattered(60, 100)
	for _, s := range balls() {
		for place, by := range scattered(60, s.r) {
			o := held(plus(s.c, by), edge)
			d := []api.Vec{of(1, -2, 3), of(0, 0, -5), wide[place], small[place]}[place%4]
			far := 1
			for extent(plus(o, times(d, far))) <= edge && extent(minus(o, times(d, far))) <= edge && far < near {
				far *= 2
			}
			for _, steps := range []int{0, far / 2} {
				there, back := from(minus(o, times(d, steps)), d), from(plus(o, times(d, steps)), times(d, -1))
				first, ok := ball.Hit(s.c, s.r, there)
				last, is := ball.Hit(s.c, s.r, back)
				if outside(s, there, fraction(0, 1)) != outside(s, back, fraction(0, 1)) || !ok || !is {
					continue
				}
				if steps == 0 {
					inner++
				} else {
					outer++
				}
				if distance(s.c, there, first).Cmp(distance(s.c, back, last)) != 0 || first.D != last.D {
					t.Fatalf("the ends of the chord by %v through %v, %v and %v, are not equally far away", there, s, first, last)
				}
			}
		}
	}
	if inner < 500 || outer < 100 {
		t.Errorf("there are %d from inside and %d from outside", inner, outer)
	}
}
