package prim_test

import (
	"math/big"
	"testing"

	"skylight/api"
	"skylight/ball"
	"skylight/box"
	"skylight/prim"
	"skylight/tri"
)

// leaving is the ray from o along d that leaves the thing with that index.
func leaving(index int, o, d api.Vec) api.Ray { return api.Ray{O: o, D: d, From: index} }

// fraction is n / d.
func fraction(n, d int) api.Frac { return api.Frac{N: n, D: d} }

// indices holds what a thing's may be, also what no list has.
func indices() []int {
	return []int{0, 1, 2, 63, 1023, 1024, -1, -2, -1024, 1 << 32, most, least, least + 1}
}

// ends holds points of a thing and of its box: the corners and points of a triangle, or where a ball touches its box, and the box's corners.
func ends(p api.Prim) []api.Vec {
	around := prim.Box(p)
	all := []api.Vec{around.Lo, around.Hi, of(around.Lo.X, around.Hi.Y, around.Hi.Z), p.A}
	if p.Kind == 1 {
		return append(all, p.B, p.C, prim.Point(p, one/2, one/2), prim.Point(p, one/3, one/4), prim.Point(p, one/2, 0))
	}
	for _, way := range []api.Vec{of(1, 0, 0), of(0, 1, 0), of(0, 0, 1)} {
		all = append(all, plus(p.A, times(way, p.R)), minus(p.A, times(way, p.R)))
	}
	return append(all, plus(p.A, of(p.R/2, p.R/2, 0)), plus(p.A, of(0, p.R/2, -p.R/2)))
}

// rays holds those from everywhere to the ends of p, from one end to another one, and along every axis through them; what begins at no place and goes along what is not near are among them.
func rays(p api.Prim) []api.Ray {
	var all []api.Ray
	targets, turns := ends(p), append(grid(-1, 0, 1), of(near, -near, 5), of(near+1, 0, 0), of(1, 0, least))
	starts := append(append(append(grid(-edge, 0, edge), scattered(20, edge)...), targets...), of(edge+1, 0, 0))
	for place, o := range starts {
		for step, target := range targets {
			d := held(minus(target, o), near)
			switch (place + step) % 5 {
			case 1:
				d = held(times(d, 2), near)
			case 2:
				d = held(plus(d, of(0, 1, -1)), near)
			case 3:
				d = turns[(place*len(targets)+step)%len(turns)]
			}
			all = append(all, leaving(-1, o, d))
		}
	}
	for place, target := range targets {
		for step, turn := range turns {
			if far := held(minus(target, times(turn, 1+place*step)), edge); step < 27 {
				all = append(all, leaving(-1, far, turn))
			}
			all = append(all, leaving(-1, target, turn))
		}
	}
	return all
}

// TestHit: P13.1, by cases: the fractions of a triangle and of a ball, by rays that leave it, that leave another thing, and that leave none, also from inside.
func TestHit(t *testing.T) {
	s, b, miss := triangle(of(0, 0, 0), of(4, 0, 0), of(0, 4, 0)), round(of(0, 0, 0), 5), api.Frac{}
	down, right := of(0, 0, -1), of(1, 0, 0)
	for _, c := range []struct {
		p     api.Prim
		index int
		x     api.Ray
		want  api.Frac
	}{
		{s, 3, leaving(-1, of(1, 1, 5), down), fraction(80, 16)}, {s, 3, leaving(2, of(1, 1, 5), down), fraction(80, 16)}, {s, 3, leaving(3, of(1, 1, 5), down), miss}, {s, 3, leaving(4, of(1, 1, 5), down), fraction(80, 16)}, {s, 3, leaving(-3, of(1, 1, 5), down), fraction(80, 16)},
		{s, 0, leaving(0, of(1, 1, 5), down), miss}, {s, 0, leaving(-1, of(1, 1, 5), down), fraction(80, 16)}, {s, 0, leaving(1, of(1, 1, -5), of(0, 0, 2)), fraction(80, 32)}, {s, 0, leaving(0, of(1, 1, -5), of(0, 0, 2)), miss},
		{s, -1, leaving(-1, of(1, 1, 5), down), miss}, {s, -1, leaving(0, of(1, 1, 5), down), fraction(80, 16)}, {s, -5, leaving(-5, of(1, 1, 5), down), miss}, {s, -5, leaving(-1, of(1, 1, 5), down), fraction(80, 16)}, {s, least, leaving(least, of(1, 1, 5), down), miss}, {s, least, leaving(most, of(1, 1, 5), down), fraction(80, 16)},
		{s, 3, leaving(-1, of(1, 1, 0), down), miss}, {s, 3, leaving(-1, of(3, 3, 5), down), miss}, {s, 3, leaving(3, of(3, 3, 5), down), miss}, {s, 3, leaving(-1, of(1, 1, -5), down), miss},
		{b, 3, leaving(-1, of(-20, 0, 0), right), fraction(15, 1)}, {b, 3, leaving(2, of(-20, 0, 0), right), fraction(15, 1)}, {b, 3, leaving(-3, of(-20, 0, 0), right), fraction(15, 1)}, {b, 3, leaving(4, of(-20, 0, 0), right), fraction(15, 1)}, {b, 3, leaving(3, of(-20, 0, 0), right), fraction(40, 1)},
		{b, 3, leaving(3, of(-5, 0, 0), right), fraction(10, 1)}, {b, 3, leaving(2, of(-5, 0, 0), right), fraction(10, 1)}, {b, 3, leaving(3, of(-5, 0, 0), of(-1, 0, 0)), miss}, {b, 3, leaving(2, of(-5, 0, 0), of(-1, 0, 0)), miss}, {b, 3, leaving(3, of(3, 4, 0), of(0, -2, 0)), fraction(16, 4)},
		{b, 3, leaving(3, of(-6, 0, 0), right), fraction(12, 1)}, {b, 3, leaving(2, of(-6, 0, 0), right), fraction(1, 1)}, {b, 3, leaving(3, of(-6, 6, 0), right), fraction(12, 1)}, {b, 3, leaving(2, of(-6, 6, 0), right), miss}, // just beside it
		{b, 3, leaving(-1, of(-4, 0, 0), right), fraction(9, 1)}, {b, 3, leaving(3, of(-4, 0, 0), right), fraction(8, 1)}, {b, 3, leaving(-1, of(4, 0, 0), right), fraction(1, 1)}, {b, 3, leaving(3, of(4, 0, 0), right), miss}, {b, 3, leaving(-1, of(0, 0, 0), of(0, -2, 0)), fraction(10, 4)}, {b, 3, leaving(3, of(0, 0, 0), of(0, -2, 0)), miss}, // from inside
		{b, 0, leaving(0, of(4, 0, 0), right), miss}, {b, 0, leaving(-1, of(4, 0, 0), right), fraction(1, 1)}, {b, -1, leaving(-1, of(4, 0, 0), right), miss}, {b, -1, leaving(0, of(4, 0, 0), right), fraction(1, 1)}, {b, -7, leaving(-7, of(-4, 0, 0), right), fraction(8, 1)}, {b, -7, leaving(7, of(-4, 0, 0), right), fraction(9, 1)}, {b, least, leaving(least, of(-4, 0, 0), right), fraction(8, 1)}, {b, most, leaving(least, of(-4, 0, 0), right), fraction(9, 1)},
		{b, 3, leaving(-1, of(-20, 6, 0), right), miss}, {b, 3, leaving(-1, of(-20, 5, 0), right), fraction(20, 1)}, {b, 3, leaving(-1, of(-20, 0, 0), of(-1, 0, 0)), miss}, {b, 3, leaving(3, of(-20, 0, 0), of(-1, 0, 0)), miss}, {b, 3, leaving(-1, of(-edge-1, 0, 0), right), miss}, {b, 3, leaving(3, of(-edge-1, 0, 0), right), miss},
	} {
		got, ok := prim.Hit(c.p, c.index, c.x)
		if got != c.want || ok != (c.want != miss) {
			t.Errorf("%v, which is thing %d, is met by %v: %v, %t, not %v", c.p, c.index, c.x, got, ok, c.want)
		}
	}
}

// TestHitWide: P13.1, things of every size and material, with every index: by a ray that leaves another thing as the layers below have it, and by one that leaves it a triangle never, and a ball as ball.Through has it.
func TestHitWide(t *testing.T) {
	hits, misses, through := 0, 0, 0
	for place, p := range things() {
		for step, x := range rays(p) {
			index := indices()[(place+step)%len(indices())]
			want, is := tri.Hit(p.A, p.B, p.C, x)
			back, leaves := api.Frac{}, false
			if p.Kind == 2 {
				want, is = ball.Hit(p.A, p.R, x)
				back, leaves = ball.Through(p.A, p.R, x)
			}
			for _, other := range []int{index + 1, index - 1, -1, 0, 1023, -index} {
				if x.From = other; other == index {
					continue
				}
				if got, ok := prim.Hit(p, index, x); got != want || ok != is {
					t.Fatalf("%v, which is thing %d, is met by %v: %v, %t, not %v, %t", p, index, x, got, ok, want, is)
				}
			}
			x.From = index
			if got, ok := prim.Hit(p, index, x); got != back || ok != leaves {
				t.Fatalf("%v, which is thing %d, is met by %v, which leaves it: %v, %t, not %v, %t", p, index, x, got, ok, back, leaves)
			}
			if is {
				hits++
			} else {
				misses++
			}
			if leaves && back != want {
				through++
			}
		}
	}
	if hits < 3000 || misses < 3000 || through < 3000 {
		t.Errorf("there are %d hits, %d misses, and %d that differ when they leave", hits, misses, through)
	}
}

// TestHitBroken: P13.1, what is not valid is not met, by no ray that meets what it is made from, whether it leaves it or not.
func TestHitBroken(t *testing.T) {
	starts := append(grid(-20, 0, 20), of(1, 1, 5), of(4, 5, 6), of(-edge, edge, 0))
	for place, p := range broken() {
		for step, o := range starts {
			d := []api.Vec{held(minus(p.A, o), near), minus(of(1, 1, 0), o), of(0, 0, -1), of(1, 0, 0)}[step%4]
			index := indices()[(place+step)%len(indices())]
			for _, from := range []int{index, -1, 0, 5} {
				if got, ok := prim.Hit(p, index, leaving(from, o, d)); got != (api.Frac{}) || ok {
					t.Errorf("%v, which is thing %d, is met from %v along %v, leaving %d: %v, %t", p, index, o, d, from, got, ok)
				}
			}
		}
	}
}

// holds tells whether b has the point where the ray is at f, by exact numbers.
func holds(b box.Box, x api.Ray, f api.Frac) bool {
	exact := func(n, m int) *big.Int { return new(big.Int).Mul(big.NewInt(int64(n)), big.NewInt(int64(m))) }
	for axis, o := range list(x.O) {
		at := exact(o, f.D)
		at.Add(at, exact(list(x.D)[axis], f.N))
		if at.Cmp(exact(list(b.Lo)[axis], f.D)) < 0 || at.Cmp(exact(list(b.Hi)[axis], f.D)) > 0 {
			return false
		}
	}
	return true
}

// TestBoxMet: P13.3, a ray that does not leave a thing, and meets it, meets its box up to the same fraction, for the box has the very point.
func TestBoxMet(t *testing.T) {
	hits := [3]int{}
	for _, p := range things() {
		around := prim.Box(p)
		for _, x := range rays(p) {
			got, ok := prim.Hit(p, 7, x)
			if !ok {
				continue
			}
			hits[p.Kind]++
			if !box.Hit(around, x, got) || !holds(around, x, got) {
				t.Fatalf("%v is met by %v at %v, but its box %v is not", p, x, got, around)
			}
		}
	}
	if hits[1] < 1000 || hits[2] < 1000 {
		t.Errorf("there are %d hits of triangles and %d of balls", hits[1], hits[2])
	}
}

// TestBoxMetAt: P13.3, where a thing touches a face of its box, the box is met up to the fraction at which the thing is, and not up to a lesser one.
func TestBoxMetAt(t *testing.T) {
	for _, c := range []struct {
		p    api.Prim
		o, d api.Vec
	}{
		{triangle(of(0, 0, 0), of(4, 0, 0), of(0, 4, 0)), of(1, 1, -5), of(0, 0, 1)}, {triangle(of(0, 0, 0), of(4, 0, 0), of(0, 4, 0)), of(1, 1, edge), of(0, 0, -7)}, {triangle(of(9, 0, 0), of(9, 4, 0), of(9, 0, 4)), of(0, 0, 0), of(9, 1, 1)}, {triangle(of(5, -5, 5), of(6, 7, 8), of(8, 9, 9)), of(4, -5, 5), of(near, 0, 0)},
		{triangle(of(0, 0, 0), of(4, 0, 3), of(0, 4, 3)), of(0, 0, -8), of(0, 0, 3)}, {triangle(of(0, 0, 0), of(4, 0, 3), of(0, 4, 3)), of(4, 0, 8), of(0, 0, -3)}, {triangle(of(0, 0, 0), of(4, 0, 3), of(0, 4, 3)), of(-4, 4, 3), of(1, 0, 0)},
		{round(of(0, 0, 0), 5), of(-20, 0, 0), of(1, 0, 0)}, {round(of(0, 0, 0), 5), of(0, 20, 0), of(0, -3, 0)}, {round(of(1, 2, 3), thick), of(1, 2, -edge), of(0, 0, near)}, {round(of(edge, edge, -edge), thick), of(-edge, edge, -edge), of(2, 0, 0)}, {round(of(0, edge, 0), thin), of(0, -edge, 0), of(0, 1, 0)},
	} {
		x := leaving(-1, c.o, c.d)
		got, ok := prim.Hit(c.p, 0, x)
		before := fraction(got.N*2-1, got.D*2)
		if around := prim.Box(c.p); !ok || !box.Hit(around, x, got) || box.Hit(around, x, before) {
			t.Errorf("%v is met by %v at %v, %t, but its box %v is not met by then, or before", c.p, x, got, ok, around)
		}
	}
}
