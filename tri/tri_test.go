package tri_test

import (
	"math"
	"math/big"
	"math/rand/v2"
	"testing"

	"skylight/api"
	"skylight/tri"
	"skylight/vec"
)

const (
	least = math.MinInt
	most  = math.MaxInt
	edge  = 1 << 19 // as far as places go
	near  = 1 << 20 // as far as near coordinates go
	one   = 65536   // all of a side, for At

	// greatestArea is the root of 3 times 2^80, rounded down: of a triangle between corners of the cube of all places.
	greatestArea = 1904410002820
)

// triangle is three corners.
type triangle struct{ a, b, c api.Vec }

// of is the vector with these coordinates.
func of(x, y, z int) api.Vec { return api.Vec{X: x, Y: y, Z: z} }

// list holds the coordinates of v.
func list(v api.Vec) [3]int { return [3]int{v.X, v.Y, v.Z} }

// made is the vector of what along answers, axis by axis.
func made(along func(axis int) int) api.Vec { return of(along(0), along(1), along(2)) }

// plus is a + b.
func plus(a, b api.Vec) api.Vec { return of(a.X+b.X, a.Y+b.Y, a.Z+b.Z) }

// minus is a - b.
func minus(a, b api.Vec) api.Vec { return of(a.X-b.X, a.Y-b.Y, a.Z-b.Z) }

// grid holds every vector that has its coordinates out of numbers.
func grid(numbers ...int) []api.Vec {
	var all []api.Vec
	for _, x := range numbers {
		for _, y := range numbers {
			for _, z := range numbers {
				all = append(all, of(x, y, z))
			}
		}
	}
	return all
}

// scattered holds vectors without a pattern, with coordinates that are multiples of step, from -bound to bound.
func scattered(count, bound, step int) []api.Vec {
	random := rand.New(rand.NewPCG(11, uint64(bound)))
	below := func() int { return (random.IntN(2*bound/step+1) - bound/step) * step }
	var all []api.Vec
	for range count {
		all = append(all, of(below(), below(), below()))
	}
	return all
}

// strays holds vectors that are no places, each along one axis at least.
func strays() []api.Vec {
	all := []api.Vec{of(edge+1, edge+1, edge+1), of(least, least, least), of(most, most, most), of(most, least, 0)}
	for _, n := range []int{edge + 1, -edge - 1, near, -near, near + 1, -near - 1, 1 << 32, -1 << 32, 1 << 62, -1 << 62, most, least + 1, least} {
		all = append(all, of(n, 0, 0), of(0, n, 0), of(0, 0, n), of(n, 5, edge), of(-edge, n, 5), of(5, edge, n))
	}
	return all
}

// exact is n as an exact number.
func exact(n int) *big.Int { return big.NewInt(int64(n)) }

// dot is the exact sum of the products of corresponding coordinates.
func dot(a, b api.Vec) *big.Int {
	all := new(big.Int)
	for axis, n := range list(a) {
		all.Add(all, new(big.Int).Mul(exact(n), exact(list(b)[axis])))
	}
	return all
}

// squared is the square of twice a triangle's area, out of lengths and not out of a cross product.
func squared(s triangle) *big.Int {
	ab, ac := minus(s.b, s.a), minus(s.c, s.a)
	lengths, both := new(big.Int).Mul(dot(ab, ab), dot(ac, ac)), dot(ab, ac)
	return lengths.Sub(lengths, both.Mul(both, both))
}

// orders holds s with its corners in every order: those that go round as s does first.
func orders(s triangle) []triangle {
	return []triangle{s, {s.b, s.c, s.a}, {s.c, s.a, s.b}, {s.a, s.c, s.b}, {s.c, s.b, s.a}, {s.b, s.a, s.c}}
}

// grouped holds the triangles of each vector and two behind it that have an area.
func grouped(vectors []api.Vec) []triangle {
	var all []triangle
	for i, a := range vectors {
		s := triangle{a, vectors[(i+1)%len(vectors)], vectors[(i+4)%len(vectors)]}
		if squared(s).Sign() > 0 {
			all = append(all, s)
		}
	}
	return all
}

// triangles holds some that have an area: small ones, great ones, narrow ones, along each plane and across all, up to the edges of places.
func triangles() []triangle {
	all := []triangle{
		{of(0, 0, 0), of(4, 0, 0), of(0, 4, 0)}, {of(0, 0, 0), of(0, 4, 0), of(0, 0, 4)}, {of(0, 0, 0), of(0, 0, 4), of(4, 0, 0)},
		{of(1, 0, 0), of(0, 1, 0), of(0, 0, 1)}, {of(-5, -6, -7), of(-1, -1, -2), of(-3, -9, 0)},
		{of(edge, edge, -edge), of(edge, -edge, edge), of(-edge, edge, edge)},
		{of(-edge, -edge, edge), of(edge, -edge, edge), of(-edge, edge, edge)},
		{of(-edge, -edge, -edge), of(edge, edge, edge), of(edge, edge, edge-1)},
		{of(-edge, -edge, -edge), of(edge, edge, edge), of(0, 0, 1)},
		{of(edge, edge, edge), of(edge-1, edge, edge), of(edge, edge-1, edge)},
	}
	all = append(append(all, grouped(scattered(25, 6, 1))...), grouped(scattered(20, 3000, 1))...)
	return append(all, grouped(scattered(25, edge, 1))...)
}

// flats holds those of places that have no area: with two corners that are the same, with all three, and with three in a line.
func flats() []triangle {
	var all []triangle
	for _, v := range append(grid(-edge, 0, edge), of(1, 2, 3)) {
		w := of(7, edge-1, -8)
		all = append(all, triangle{v, v, v}, triangle{v, v, w}, triangle{v, w, v}, triangle{w, v, v})
	}
	for _, s := range []triangle{
		{of(0, 0, 0), of(1, 2, 3), of(2, 4, 6)}, {of(5, 0, 0), of(-3, 0, 0), of(9, 0, 0)}, {of(0, 1, 0), of(0, -7, 0), of(0, 5, 0)}, {of(0, 0, 1), of(0, 0, 2), of(0, 0, 3)},
		{of(-edge, -edge, -edge), of(0, 0, 0), of(edge, edge, edge)}, {of(-edge, edge, 3), of(edge, -edge, 3), of(1, -1, 3)}, {of(-edge, 5, edge), of(edge, 5, -edge), of(edge-1, 5, 1-edge)},
	} {
		all = append(all, orders(s)...)
	}
	return all
}

// broken holds triangles with one corner, or more, that is no place; some of them are near one another all the same.
func broken() []triangle {
	a, b, c := of(edge, edge, edge), of(edge-5, edge, edge-1), of(edge, edge-5, edge)
	all := []triangle{{of(edge+1, edge, edge), b, c}, {a, of(edge, edge, edge+1), c}, {a, b, of(edge, edge+1, edge)}}
	all = append(all, triangle{of(near, near, near), of(near, near-5, near), of(near-5, near, near)})
	all = append(all, triangle{of(-edge-1, 0, 0), of(-edge, 4, 0), of(-edge, 0, 4)}, triangle{of(0, -edge, 0), of(4, -edge-1, 0), of(0, -edge, 4)}, triangle{of(0, 4, -edge), of(4, 0, -edge), of(0, 0, -edge-1)})
	for _, v := range strays() {
		all = append(all, triangle{v, b, c}, triangle{a, v, c}, triangle{a, b, v}, triangle{v, v, v}, triangle{v, v, of(1, 2, 3)})
	}
	return all
}

// TestPlace: P11.1, every axis counts, and both bounds are places yet.
func TestPlace(t *testing.T) {
	for _, v := range append(grid(-edge, 1-edge, -1, 0, 1, edge-1, edge), scattered(100, edge, 1)...) {
		if !tri.Place(v) {
			t.Errorf("%v is no place", v)
		}
	}
	for _, v := range strays() {
		if tri.Place(v) {
			t.Errorf("%v is a place", v)
		}
	}
	for _, v := range grid(-edge-1, -edge, 0, edge, edge+1) {
		want := max(v.X, -v.X, v.Y, -v.Y, v.Z, -v.Z) <= edge
		if got := tri.Place(v); got != want {
			t.Errorf("%v is a place: %t", v, got)
		}
	}
}

// TestFlat: P11.1, with an area, without one, and with a corner that is no place.
func TestFlat(t *testing.T) {
	for _, s := range triangles() {
		if tri.Flat(s.a, s.b, s.c) {
			t.Errorf("%v is flat", s)
		}
	}
	for _, s := range append(flats(), broken()...) {
		if !tri.Flat(s.a, s.b, s.c) {
			t.Errorf("%v is not flat", s)
		}
	}
	for _, b := range grid(-1, 0, 2) {
		for _, c := range grid(-2, 0, 1) {
			s := triangle{of(0, 0, 0), b, c}
			if got, want := tri.Flat(s.a, s.b, s.c), squared(s).Sign() == 0; got != want {
				t.Errorf("%v is flat: %t", s, got)
			}
		}
	}
}

// TestNormal: P11.1, by cases: the chapter's triangle, from both sides, along each axis, and across.
func TestNormal(t *testing.T) {
	for _, c := range []struct {
		s    triangle
		want api.Vec
	}{
		{triangle{of(0, 0, 0), of(4, 0, 0), of(0, 4, 0)}, of(0, 0, 16384)}, {triangle{of(0, 0, 0), of(0, 4, 0), of(4, 0, 0)}, of(0, 0, -16384)},
		{triangle{of(9, 9, 9), of(9, 10, 9), of(9, 9, 10)}, of(16384, 0, 0)}, {triangle{of(9, 9, 9), of(9, 9, 10), of(10, 9, 9)}, of(0, 16384, 0)},
		{triangle{of(1, 0, 0), of(0, 1, 0), of(0, 0, 1)}, of(9459, 9459, 9459)}, {triangle{of(0, 0, 1), of(0, 1, 0), of(1, 0, 0)}, of(-9459, -9459, -9459)},
		{triangle{of(0, 0, 0), of(0, 1, 0), of(-4, 0, 3)}, of(9830, 0, 13107)}, {triangle{of(5, 6, 7), of(5, 6+edge/2, 7), of(5-4000, 6, 7+3000)}, of(9830, 0, 13107)},
		{triangle{of(-edge, -edge, edge), of(edge, -edge, edge), of(-edge, edge, edge)}, of(0, 0, 16384)},
	} {
		if got, ok := tri.Normal(c.s.a, c.s.b, c.s.c); got != c.want || !ok {
			t.Errorf("of %v, it is %v, %t", c.s, got, ok)
		}
	}
}

// TestNormalOrders: P11.1, it is the direction of the exact cross product, which is turned by exchanging two corners; there is none of what is flat.
func TestNormalOrders(t *testing.T) {
	for _, s := range triangles() {
		ab, ac := minus(s.b, s.a), minus(s.c, s.a)
		want, _ := vec.Unit(made(func(axis int) int {
			next, last := (axis+1)%3, (axis+2)%3
			return list(ab)[next]*list(ac)[last] - list(ab)[last]*list(ac)[next]
		}))
		for place, s := range orders(s) {
			got, ok := tri.Normal(s.a, s.b, s.c)
			if place >= 3 {
				got = minus(api.Vec{}, got)
			}
			if got != want || !ok {
				t.Errorf("of %v, order %d, it is %v, %t, not %v", s, place, got, ok, want)
			}
		}
	}
	for _, s := range append(flats(), broken()...) {
		if got, ok := tri.Normal(s.a, s.b, s.c); got != (api.Vec{}) || ok {
			t.Errorf("of %v, which is flat, it is %v, %t", s, got, ok)
		}
	}
}

// TestArea: P11.1, by cases: whole roots and others, and the greatest one.
func TestArea(t *testing.T) {
	for _, c := range []struct {
		s    triangle
		want int
	}{
		{triangle{of(0, 0, 0), of(4, 0, 0), of(0, 4, 0)}, 16}, // the chapter's triangle
		{triangle{of(0, 0, 0), of(0, 1, 0), of(-4, 0, 3)}, 5}, {triangle{of(7, 7, 7), of(8, 7, 7), of(9, 8, 7)}, 1},
		{triangle{of(1, 0, 0), of(0, 1, 0), of(0, 0, 1)}, 1},   // the root of 3
		{triangle{of(0, 0, 0), of(2, 2, 0), of(0, 2, 2)}, 6},   // of 48
		{triangle{of(0, 0, 0), of(1, 0, 7), of(0, 1, 0)}, 7},   // of 50
		{triangle{of(0, 0, 0), of(-2, 8, 0), of(1, 0, 1)}, 11}, // of 132
		{triangle{of(-edge, -edge, edge), of(edge, -edge, edge), of(-edge, edge, edge)}, 1 << 40},
		{triangle{of(edge, edge, -edge), of(edge, -edge, edge), of(-edge, edge, edge)}, greatestArea},
		{triangle{of(-edge, -edge, edge), of(-edge, edge, -edge), of(edge, -edge, -edge)}, greatestArea},
	} {
		if got := tri.Area(c.s.a, c.s.b, c.s.c); got != c.want {
			t.Errorf("of %v, it is %d, not %d", c.s, got, c.want)
		}
	}
}

// TestAreaExact: P11.1, the area against exact numbers, whatever the order of the corners; 0 of what is flat.
func TestAreaExact(t *testing.T) {
	for _, s := range append(triangles(), grouped(scattered(400, edge, 1))...) {
		want := int(new(big.Int).Sqrt(squared(s)).Int64())
		for _, s := range orders(s) {
			if got := tri.Area(s.a, s.b, s.c); got != want || got < 1 {
				t.Errorf("of %v, it is %d, not %d", s, got, want)
			}
		}
	}
	for _, s := range append(flats(), broken()...) {
		if got := tri.Area(s.a, s.b, s.c); got != 0 {
			t.Errorf("of %v, which is flat, it is %d", s, got)
		}
	}
}
