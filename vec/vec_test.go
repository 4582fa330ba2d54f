package vec_test

import (
	"math"
	"math/big"
	"math/rand/v2"
	"slices"
	"testing"

	"skylight/api"
	"skylight/vec"
)

const (
	least = math.MinInt
	most  = math.MaxInt
	near  = 1 << 20 // as far as near coordinates go
	far   = 1 << 62 // as far as Unit goes
	low   = 1 << 19 // as far as a normalized vector goes at least
)

// of is the vector with these coordinates.
func of(x, y, z int) api.Vec { return api.Vec{X: x, Y: y, Z: z} }

// list holds the coordinates of v.
func list(v api.Vec) [3]int { return [3]int{v.X, v.Y, v.Z} }

// made is the vector of what along answers, axis by axis.
func made(along func(axis int) int) api.Vec { return of(along(0), along(1), along(2)) }

// opposite is v with every sign turned.
func opposite(v api.Vec) api.Vec { return of(-v.X, -v.Y, -v.Z) }

// grid holds every vector that has its coordinates out of numbers.
func grid(numbers ...int) []api.Vec {
	var all []api.Vec
	for _, x := range numbers {
		for _, y := range numbers {
			for _, z := range numbers {
				all = append(all, of(x, y, z))
			}
		}
	}
	return all
}

// nears holds near vectors, many with coordinates at the edges.
func nears() []api.Vec {
	all := grid(0, 1, -1, near, -near)
	return append(all, of(3, 4, 0), of(2, -3, 7), of(-12345, 54321, 999983), of(near-1, 1-near, near), of(1-near, near-2, 3-near), of(low, -low, low-1), of(16384, -16384, 5))
}

// strays holds vectors that are not near, each along one axis at least.
func strays() []api.Vec {
	all := []api.Vec{of(near+1, near+1, near+1), of(least, least, least), of(most, most, most), of(most, least, 0), of(1, near+1, -near-1)}
	for _, n := range []int{near + 1, -near - 1, 2 * near, -2 * near, 1 << 32, -1 << 32, far, -far, most, least + 1, least} {
		all = append(all, of(n, 0, 0), of(0, n, 0), of(0, 0, n), of(n, 5, near), of(-near, n, 5), of(5, near, n))
	}
	return all
}

// ints holds ints about 0 and about both ends.
func ints() []int {
	return []int{0, 1, -1, 2, -2, 12345, -54321, near, -near - 1, 1 << 31, -1 << 32, far - 1, far, far + 1, -far - 1, -far, 1 - far, most - 1, most, least, least + 1, least + 2}
}

func exact(n int) *big.Int { return big.NewInt(int64(n)) }

// held is n, held within the ints.
func held(n *big.Int) int {
	if n.IsInt64() {
		return int(n.Int64())
	}
	if n.Sign() < 0 {
		return least
	}
	return most
}

// sum is the exact sum, held within the ints.
func sum(a, b int) int { return held(new(big.Int).Add(exact(a), exact(b))) }

// dot is the exact sum of the products of corresponding coordinates.
func dot(a, b api.Vec) *big.Int {
	all := new(big.Int)
	for axis, n := range list(a) {
		all.Add(all, new(big.Int).Mul(exact(n), exact(list(b)[axis])))
	}
	return all
}

// cross is the coordinate of the cross product along an axis: the axes go round.
func cross(a, b api.Vec, axis int) int {
	next, last := (axis+1)%3, (axis+2)%3
	plus := new(big.Int).Mul(exact(list(a)[next]), exact(list(b)[last]))
	minus := new(big.Int).Mul(exact(list(a)[last]), exact(list(b)[next]))
	return held(plus.Sub(plus, minus))
}

// normal is what a vector becomes when it is normalized, found in one step of as many bits as its greatest coordinate has too few or too many.
func normal(v api.Vec) api.Vec {
	greatest := 0
	for _, n := range list(v) {
		greatest = max(greatest, exact(n).BitLen())
	}
	return made(func(axis int) int {
		n := exact(list(v)[axis])
		if greatest < 20 {
			return held(n.Lsh(n, uint(20-greatest)))
		}
		// Quo divides toward 0.
		return held(n.Quo(n, new(big.Int).Lsh(exact(1), uint(greatest-20))))
	})
}

// direction is a vector's direction, by exact numbers.
func direction(v api.Vec) api.Vec {
	v = normal(v)
	length := new(big.Int).Sqrt(dot(v, v))
	return made(func(axis int) int {
		n := new(big.Int).Mul(exact(list(v)[axis]), exact(16384))
		return held(n.Quo(n, length))
	})
}

// directed holds vectors that have a direction: of every size, with both signs, and at the edges where doubling and halving begin and end.
func directed() []api.Vec {
	all := grid(0, 1, -1, 2, 5, -7, 16384, -16385, 99991, low-1, low, -low, low+1, -low-1, near-1, near, -near, 1-near, near+1, -near-1)
	all = append(all, grid(0, -3, 1<<31, -1<<31+1, 1<<42-1, -63<<42, -65<<42-1, 1<<61-1, -1<<61, far-1, far, -far, 1-far)...)
	return slices.DeleteFunc(all, func(v api.Vec) bool { return v == of(0, 0, 0) })
}

// TestNear: P6.1, every axis counts, and both bounds are near yet.
func TestNear(t *testing.T) {
	for _, v := range nears() {
		if !vec.Near(v) {
			t.Errorf("%v is not near", v)
		}
	}
	for _, v := range strays() {
		if vec.Near(v) {
			t.Errorf("%v is near", v)
		}
	}
}

// TestAddSub: P6.1, by cases: sums and differences beyond the ints, and the least int, which is times -1 the greatest before it is added.
func TestAddSub(t *testing.T) {
	for _, c := range []struct{ a, b, add, sub api.Vec }{
		{of(1, 2, 3), of(10, 20, 30), of(11, 22, 33), of(-9, -18, -27)},
		{of(1, -2, 3), of(-10, 20, -30), of(-9, 18, -27), of(11, -22, 33)},
		{of(0, 0, 0), of(0, 0, 0), of(0, 0, 0), of(0, 0, 0)},
		{of(near, -near, near), of(near, -near, -near), of(2*near, -2*near, 0), of(0, 0, 2*near)},
		{of(most, 1, 0), of(1, most, most), of(most, most, most), of(most-1, 1-most, -most)},
		{of(most, least, 7), of(most, least, 8), of(most, least, 15), of(0, -1, -1)},
		{of(least, -1, least), of(1, 2, most), of(least+1, 1, -1), of(least, -3, least)},
		{of(far, far, -far), of(far, -far, -far), of(most, 0, least), of(0, most, 0)},
		{of(far, -far, -far), of(far-1, far, -far-1), of(most, 0, least), of(1, least, 1)},
		{of(0, 1, -1), of(least, least, least), of(least, least+1, least), of(most, most, most-1)},
		{of(-2, most, least), of(least, least, least), of(least, -1, least), of(most-2, most, -1)},
		{of(least, least, least), of(0, 1, -1), of(least, least+1, least), of(least, least, least+1)},
	} {
		if got := vec.Add(c.a, c.b); got != c.add {
			t.Errorf("Add(%v, %v) is %v, not %v", c.a, c.b, got, c.add)
		}
		if got := vec.Sub(c.a, c.b); got != c.sub {
			t.Errorf("Sub(%v, %v) is %v, not %v", c.a, c.b, got, c.sub)
		}
	}
}

// TestAddSubExact: P6.1, against exact numbers, each axis with numbers of its own.
func TestAddSubExact(t *testing.T) {
	numbers := ints()
	pick := func(place int) api.Vec {
		return made(func(axis int) int { return numbers[(place+7*axis)%len(numbers)] })
	}
	for i := range numbers {
		for j := range numbers {
			a, b := pick(i), pick(j)
			add := made(func(axis int) int { return sum(list(a)[axis], list(b)[axis]) })
			if got := vec.Add(a, b); got != add {
				t.Fatalf("Add(%v, %v) is %v, not %v", a, b, got, add)
			}
			less := made(func(axis int) int { return held(new(big.Int).Neg(exact(list(b)[axis]))) })
			sub := made(func(axis int) int { return sum(list(a)[axis], list(less)[axis]) })
			if got := vec.Sub(a, b); got != sub {
				t.Fatalf("Sub(%v, %v) is %v, not %v", a, b, got, sub)
			}
		}
	}
}

// TestDotCross: P6.1, by cases, with the chapter's example, and the greatest there are.
func TestDotCross(t *testing.T) {
	for _, c := range []struct {
		a, b  api.Vec
		dot   int
		cross api.Vec
	}{
		{of(1, 0, 0), of(0, 1, 0), 0, of(0, 0, 1)}, {of(0, 1, 0), of(1, 0, 0), 0, of(0, 0, -1)},
		{of(0, 1, 0), of(0, 0, 1), 0, of(1, 0, 0)}, {of(0, 0, 1), of(0, 1, 0), 0, of(-1, 0, 0)},
		{of(0, 0, 1), of(1, 0, 0), 0, of(0, 1, 0)}, {of(1, 0, 0), of(0, 0, 1), 0, of(0, -1, 0)},
		{of(1, 2, 3), of(4, 5, 6), 32, of(-3, 6, -3)}, {of(1, -2, 3), of(-4, 5, 6), 4, of(-27, -18, -3)},
		{of(7, 0, 0), of(3, 0, 0), 21, of(0, 0, 0)}, {of(0, 0, 0), of(near, near, near), 0, of(0, 0, 0)},
		{of(near, near, near), of(near, near, near), 3 << 40, of(0, 0, 0)},
		{of(near, near, near), of(-near, -near, -near), -3 << 40, of(0, 0, 0)},
		{of(near, near, -near), of(-near, near, near), -1 << 40, of(1<<41, 0, 1<<41)},
		{of(-near, near, near), of(near, near, -near), -1 << 40, of(-1<<41, 0, -1<<41)},
		{of(near, -near, near), of(near, near, -near), -1 << 40, of(0, 1<<41, 1<<41)},
	} {
		if got := vec.Dot(c.a, c.b); got != c.dot {
			t.Errorf("Dot(%v, %v) is %d, not %d", c.a, c.b, got, c.dot)
		}
		if got := vec.Cross(c.a, c.b); got != c.cross {
			t.Errorf("Cross(%v, %v) is %v, not %v", c.a, c.b, got, c.cross)
		}
	}
}

// TestVolume: P6.1, by cases: of cross products that are not near, and the greatest there is.
func TestVolume(t *testing.T) {
	for _, c := range []struct {
		a, b, c api.Vec
		want    int
	}{
		{of(1, 0, 0), of(0, 1, 0), of(0, 0, 1), 1}, {of(0, 1, 0), of(1, 0, 0), of(0, 0, 1), -1}, {of(0, 1, 0), of(0, 0, 1), of(1, 0, 0), 1},
		{of(2, 3, 5), of(7, 11, 13), of(17, 19, 23), -78}, {of(2, 3, 5), of(17, 19, 23), of(7, 11, 13), 78},
		{of(0, 0, 0), of(1, 2, 3), of(4, 5, 7), 0}, {of(1, 2, 3), of(4, 5, 6), of(7, 8, 9), 0},
		{of(near, 0, 0), of(0, near, 0), of(0, 0, near), 1 << 60}, {of(-near, 0, 0), of(0, near, 0), of(0, 0, near), -1 << 60},
		{of(-near, near, near), of(near, -near, near), of(near, near, -near), 1 << 62}, {of(near, -near, near), of(-near, near, near), of(near, near, -near), -1 << 62},
		{of(1, 0, 0), of(0, near, near), of(0, -near, near), 1 << 41}, {of(0, 0, -1), of(near, near, 0), of(-near, near, 0), -1 << 41},
	} {
		if got := vec.Volume(c.a, c.b, c.c); got != c.want {
			t.Errorf("Volume(%v, %v, %v) is %d, not %d", c.a, c.b, c.c, got, c.want)
		}
	}
}

// TestExact: P6.1, Dot, Cross, Volume and Len of near vectors, against exact numbers.
func TestExact(t *testing.T) {
	all := nears()
	for i, a := range all {
		if got, want := vec.Len(a), held(new(big.Int).Sqrt(dot(a, a))); got != want {
			t.Fatalf("Len(%v) is %d, not %d", a, got, want)
		}
		for j, b := range all {
			if got, want := vec.Dot(a, b), held(dot(a, b)); got != want {
				t.Fatalf("Dot(%v, %v) is %d, not %d", a, b, got, want)
			}
			turned := made(func(axis int) int { return cross(a, b, axis) })
			if got := vec.Cross(a, b); got != turned {
				t.Fatalf("Cross(%v, %v) is %v, not %v", a, b, got, turned)
			}
			c := all[(31*i+17*j)%len(all)]
			if got, want := vec.Volume(c, a, b), held(dot(c, turned)); got != want {
				t.Fatalf("Volume(%v, %v, %v) is %d, not %d", c, a, b, got, want)
			}
		}
	}
}

// TestStrays: P6.1, of vectors that are not near, wherever they stand, nothing is computed.
func TestStrays(t *testing.T) {
	a, b := of(3, -5, 7), of(-near, 2, near)
	for _, v := range strays() {
		for place, got := range []int{
			vec.Dot(v, a), vec.Dot(a, v), vec.Dot(v, v), vec.Len(v),
			vec.Volume(v, a, b), vec.Volume(a, v, b), vec.Volume(a, b, v), vec.Volume(v, v, a), vec.Volume(b, v, v), vec.Volume(v, v, v),
		} {
			if got != 0 {
				t.Errorf("of %v, which is not near, number %d is %d", v, place, got)
			}
		}
		for place, got := range []api.Vec{vec.Cross(v, a), vec.Cross(a, v), vec.Cross(v, v), vec.Cross(v, opposite(b))} {
			if got != of(0, 0, 0) {
				t.Errorf("of %v, which is not near, vector %d is %v", v, place, got)
			}
		}
	}
}

// TestLen: P6.1, by cases: rounded down, and the greatest there is.
func TestLen(t *testing.T) {
	for _, c := range []struct {
		v    api.Vec
		want int
	}{
		{of(0, 0, 0), 0}, {of(1, 0, 0), 1}, {of(0, -1, 0), 1}, {of(0, 0, -9), 9}, {of(1, 1, 1), 1}, {of(1, 1, -2), 2}, {of(2, 2, 2), 3}, {of(3, 4, 0), 5}, {of(0, -3, 4), 5}, {of(2, 3, 6), 7}, {of(2, 3, 5), 6},
		{of(near, 0, 0), near}, {of(0, -near, 0), near}, {of(near, -near, 0), 1482910}, {of(-near, near, -near), 1816186}, {of(low, low, low), 908093},
	} {
		if got := vec.Len(c.v); got != c.want {
			t.Errorf("Len(%v) is %d, not %d", c.v, got, c.want)
		}
	}
}

// TestUnit: P6.2, by cases, with the chapter's example: what is left of a coordinate when it is halved, and the edges of what has a direction.
func TestUnit(t *testing.T) {
	for _, c := range []struct{ v, want api.Vec }{
		{of(0, 0, 5), of(0, 0, 16384)}, {of(0, 0, -1), of(0, 0, -16384)}, {of(1, 0, 0), of(16384, 0, 0)}, {of(0, -9, 0), of(0, -16384, 0)},
		{of(3, 4, 0), of(9830, 13107, 0)}, {of(-3, 0, 4), of(-9830, 0, 13107)}, {of(0, 4, -3), of(0, 13107, -9830)}, {of(1, 1, 1), of(9459, 9459, 9459)}, {of(-1, 1, -1), of(-9459, 9459, -9459)}, {of(1, -1, 0), of(11585, -11585, 0)}, {of(1, 2, 3), of(4378, 8757, 13136)}, {of(-1000, 1, 0), of(-16384, 16, 0)},
		{of(low, 0, 0), of(16384, 0, 0)}, {of(-low, 0, 0), of(-16384, 0, 0)}, {of(low, 31, -31), of(16384, 0, 0)}, {of(low, 32, -32), of(16384, 1, -1)}, {of(-low, 32, -33), of(-16384, 1, -1)},
		{of(near, 63, -63), of(16384, 0, 0)}, {of(near, 64, -64), of(16384, 1, -1)}, {of(-near, 65, 64), of(-16384, 1, 1)},
		{of(far, 0, 0), of(16384, 0, 0)}, {of(0, -far, 0), of(0, -16384, 0)}, {of(0, far, far), of(0, 11585, 11585)}, {of(-far, -far, far), of(-9459, -9459, 9459)},
		{of(far, -63<<42, 63<<42), of(16384, 0, 0)}, {of(-63<<42, far, 1-1<<48), of(0, 16384, 0)}, {of(far, -1<<48, 1<<48), of(16384, -1, 1)}, {of(far, most>>1, 1-far), of(9459, 9459, -9459)},
	} {
		if got, ok := vec.Unit(c.v); got != c.want || !ok {
			t.Errorf("Unit(%v) is %v, %t, not %v", c.v, got, ok, c.want)
		}
	}
}

// scattered holds vectors without a pattern: of every size, and with the greatest coordinate at each edge of doubling and halving, so that it shows how exact the length is by which is divided.
func scattered() []api.Vec {
	random := rand.New(rand.NewPCG(6, 2))
	below := func(bound int) int { return random.IntN(bound) * (1 - 2*random.IntN(2)) }
	var all []api.Vec
	for range 400 {
		for bits := range 63 {
			size := 1 << bits
			all = append(all, of(below(size), below(size), size), of(below(size), -size, below(size)), of(below(size+1), below(size+1), below(size/2+1)))
		}
		for _, edge := range []int{low - 1, low, low + 1, near - 1, near, near + 1} {
			all = append(all, of(edge, below(edge), below(edge)), of(below(edge), -edge, below(edge)), of(below(edge), below(edge), edge))
		}
	}
	return slices.DeleteFunc(all, func(v api.Vec) bool { return v == of(0, 0, 0) })
}

// TestUnitExact: P6.2, against exact numbers.
func TestUnitExact(t *testing.T) {
	for _, v := range append(directed(), scattered()...) {
		want := direction(v)
		if got, ok := vec.Unit(v); got != want || !ok {
			t.Fatalf("Unit(%v) is %v, %t, not %v", v, got, ok, want)
		}
	}
}

// TestUnitNone: P6.2, the zero vector, and coordinates beyond the bounds, along every axis, have no direction.
func TestUnitNone(t *testing.T) {
	none := []api.Vec{of(0, 0, 0), of(far+1, far+1, far+1), of(least, least, least), of(most, most, most)}
	for _, n := range []int{far + 1, -far - 1, far + 2, most - 1, most, least + 1, least} {
		none = append(none, of(n, 0, 0), of(0, n, 0), of(0, 0, n), of(n, far, 1), of(1, n, -far), of(-far, 1, n))
	}
	for _, v := range none {
		if got, ok := vec.Unit(v); got != of(0, 0, 0) || ok {
			t.Errorf("Unit(%v) is %v, %t", v, got, ok)
		}
	}
}

// scaleCases holds vectors, fractions and what Scale makes of them.
func scaleCases() []struct {
	v    api.Vec
	f    api.Frac
	want api.Vec
} {
	return []struct {
		v    api.Vec
		f    api.Frac
		want api.Vec
	}{
		{of(3, 5, 7), api.Frac{N: 1, D: 2}, of(1, 2, 3)}, {of(-3, 5, -7), api.Frac{N: 1, D: 2}, of(-2, 2, -4)}, {of(3, -5, 7), api.Frac{N: -1, D: 2}, of(-2, 2, -4)},
		{of(10, 20, 30), api.Frac{N: -1, D: 3}, of(-4, -7, -10)}, {of(10, 20, 30), api.Frac{N: 0, D: 9}, of(0, 0, 0)}, {of(10, 20, 30), api.Frac{N: 7, D: 1}, of(70, 140, 210)},
		{of(most, least, far), api.Frac{N: 2, D: 2}, of(most, least, far)}, {of(most, least, far), api.Frac{N: 2, D: 1}, of(most, least, most)}, {of(most, least, -far), api.Frac{N: -2, D: 1}, of(least, most, most)}, {of(least, most, 1), api.Frac{N: most, D: most}, of(least, most, 1)},
		{of(1, -1, 0), api.Frac{N: 1, D: most}, of(0, -1, 0)}, {of(1, 1, most), api.Frac{N: least, D: most}, of(-2, -2, least)},
		{of(1, 2, 3), api.Frac{N: 1, D: 0}, of(0, 0, 0)}, {of(1, 2, 3), api.Frac{N: 0, D: 0}, of(0, 0, 0)}, {of(1, 2, 3), api.Frac{N: 1, D: -1}, of(0, 0, 0)}, {of(most, least, -7), api.Frac{N: -5, D: least}, of(0, 0, 0)},
	}
}

// TestScale: P6.2, by cases: rounded down, held within the ints, and of fractions that are no fractions.
func TestScale(t *testing.T) {
	for _, c := range scaleCases() {
		if got := vec.Scale(c.v, c.f); got != c.want {
			t.Errorf("Scale(%v, %v) is %v, not %v", c.v, c.f, got, c.want)
		}
	}
}

// TestAlong: P6.2, what Scale makes of the direction is added to where the ray begins; From plays no part in it.
func TestAlong(t *testing.T) {
	for _, c := range scaleCases() {
		for _, o := range []api.Vec{of(0, 0, 0), of(100, -200, 300), of(most, least, -1), of(least, most, 1)} {
			want := made(func(axis int) int { return sum(list(o)[axis], list(c.want)[axis]) })
			for _, from := range []int{-1, 0, 9} {
				if got := vec.Along(api.Ray{O: o, D: c.v, From: from}, c.f); got != want {
					t.Errorf("Along of %v, %v, %d and %v is %v, not %v", o, c.v, from, c.f, got, want)
				}
			}
		}
	}
}

// TestAlongCases: P6.2, by cases, an invalid fraction, which leads nowhere, among them.
func TestAlongCases(t *testing.T) {
	ray := api.Ray{O: of(10, 20, 30), D: of(3, -3, 16384), From: -1}
	for _, c := range []struct {
		f    api.Frac
		want api.Vec
	}{
		{api.Frac{N: 0, D: 1}, of(10, 20, 30)}, {api.Frac{N: 1, D: 1}, of(13, 17, 16414)}, {api.Frac{N: 1, D: 2}, of(11, 18, 8222)}, {api.Frac{N: -1, D: 2}, of(8, 21, -8162)},
		{api.Frac{N: most, D: 1}, of(most, least+20, most)}, {api.Frac{N: 5, D: 0}, of(10, 20, 30)}, {api.Frac{N: 5, D: -2}, of(10, 20, 30)},
	} {
		if got := vec.Along(ray, c.f); got != c.want {
			t.Errorf("Along of %v and %v is %v, not %v", ray, c.f, got, c.want)
		}
	}
}

// TestDirections: P6.3, the length of a direction, the direction of the opposite, and that of the double, which needs to have one.
func TestDirections(t *testing.T) {
	for _, v := range append(directed(), scattered()...) {
		got, _ := vec.Unit(v)
		if square := vec.Dot(got, got); square < 16382*16382 || square > 16385*16385 {
			t.Fatalf("the direction of %v is %v, of the square %d", v, got, square)
		}
		if back, ok := vec.Unit(opposite(v)); back != opposite(got) || !ok {
			t.Fatalf("the direction of %v is %v, but that of its opposite %v, %t", v, got, back, ok)
		}
		twice := of(2*v.X, 2*v.Y, 2*v.Z)
		if max(v.X, v.Y, v.Z) > far/2 || min(v.X, v.Y, v.Z) < -far/2 {
			continue
		}
		if double, ok := vec.Unit(twice); double != got || !ok {
			t.Fatalf("the direction of %v is %v, but that of its double %v, %t", v, got, double, ok)
		}
	}
}

// TestVolumes: P6.3, a cross product has no volume with its factors, and exchanging two vectors turns the sign.
func TestVolumes(t *testing.T) {
	all := append(nears(), strays()...)
	for i, a := range all {
		for j, b := range all {
			c := all[(29*i+13*j+5)%len(all)]
			if first, second := vec.Volume(a, a, b), vec.Volume(b, a, b); first != 0 || second != 0 {
				t.Fatalf("the cross product of %v and %v has the volumes %d and %d with them", a, b, first, second)
			}
			want := -vec.Volume(a, b, c)
			for _, got := range []int{vec.Volume(b, a, c), vec.Volume(a, c, b), vec.Volume(c, b, a)} {
				if got != want {
					t.Fatalf("of %v, %v and %v, two exchanged, the volume is %d, not %d", a, b, c, got, want)
				}
			}
		}
	}
}
