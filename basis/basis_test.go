package basis_test

import (
	"math"
	"math/big"
	"math/rand/v2"
	"testing"

	"skylight/api"
	"skylight/basis"
	"skylight/vec"
)

const (
	least = math.MinInt
	most  = math.MaxInt
	near  = 1 << 20 // as far as near coordinates go
	far   = 1 << 62 // as far as vectors with a direction go
	unit  = 16384   // the length of a direction
)

// of is the vector with these coordinates.
func of(x, y, z int) api.Vec { return api.Vec{X: x, Y: y, Z: z} }

// list holds the coordinates of v.
func list(v api.Vec) [3]int { return [3]int{v.X, v.Y, v.Z} }

// directions holds U, V and N of b.
func directions(b basis.Basis) [3]api.Vec { return [3]api.Vec{b.U, b.V, b.N} }

// grid holds every vector that has its coordinates out of numbers.
func grid(numbers ...int) []api.Vec {
	var all []api.Vec
	for _, x := range numbers {
		for _, y := range numbers {
			for _, z := range numbers {
				all = append(all, of(x, y, z))
			}
		}
	}
	return all
}

// scattered holds vectors without a pattern, with coordinates from -bound to bound.
func scattered(count, bound int) []api.Vec {
	random := rand.New(rand.NewPCG(7, uint64(bound)))
	below := func() int { return random.IntN(2*bound+1) - bound }
	var all []api.Vec
	for range count {
		all = append(all, of(below(), below(), below()))
	}
	return all
}

// nears holds near vectors, many with coordinates at the edges.
func nears() []api.Vec {
	all := grid(0, 1, -1, near, -near)
	all = append(all, of(unit, 0, 0), of(0, -unit, 0), of(9459, -9459, 9459), of(3, 4, -5), of(near-1, 1-near, near), of(-12345, 54321, 999983))
	return append(all, scattered(40, near)...)
}

// strays holds vectors that are not near, each along one axis at least.
func strays() []api.Vec {
	all := []api.Vec{of(near+1, near+1, near+1), of(least, least, least), of(most, most, most), of(most, least, 0)}
	for _, n := range []int{near + 1, -near - 1, 2 * near, 1 << 32, -1 << 32, far, -far, most, least + 1, least} {
		all = append(all, of(n, 0, 0), of(0, n, 0), of(0, 0, n), of(n, 5, near), of(-near, n, 5), of(5, near, n))
	}
	return all
}

// bases holds those of vectors of many sizes, along the axes, between them and without a pattern.
func bases(t *testing.T) []basis.Basis {
	t.Helper()
	vectors := grid(0, 1, -1, 2, -7, unit, -far, far)
	vectors = append(vectors, scattered(300, 9)...)
	vectors = append(vectors, scattered(1000, near)...)
	vectors = append(vectors, scattered(300, far/2)...)
	var all []basis.Basis
	for _, n := range vectors {
		b, ok := basis.Of(n)
		if ok == (n == of(0, 0, 0)) {
			t.Fatalf("Of(%v) is %v, %t", n, b, ok)
		}
		if ok {
			all = append(all, b)
		}
	}
	return all
}

// TestOf: P7.1, by cases, with the chapter's example: along each axis, either way, and with coordinates of N that have the same least absolute value.
func TestOf(t *testing.T) {
	for _, c := range []struct{ n, u, v, direction api.Vec }{
		{of(0, 0, 1), of(0, -unit, 0), of(unit, 0, 0), of(0, 0, unit)},
		{of(0, 0, -1), of(0, unit, 0), of(unit, 0, 0), of(0, 0, -unit)},
		{of(0, 7, 0), of(0, 0, unit), of(unit, 0, 0), of(0, unit, 0)},
		{of(0, -7, 0), of(0, 0, -unit), of(unit, 0, 0), of(0, -unit, 0)},
		{of(far, 0, 0), of(0, 0, -unit), of(0, unit, 0), of(unit, 0, 0)},
		{of(-far, 0, 0), of(0, 0, unit), of(0, unit, 0), of(-unit, 0, 0)},
		// The axis is X, Y or Z, since there N goes least.
		{of(0, 3, 4), of(0, -13107, 9830), of(unit, 0, 0), of(0, 9830, 13107)},
		{of(3, 0, 4), of(13107, 0, -9830), of(0, unit, 0), of(9830, 0, 13107)},
		{of(3, -4, 0), of(13107, 9830, 0), of(0, 0, unit), of(9830, -13107, 0)},
		// Equally near to all axes, or to two of them, either way, it is the first of them.
		{of(1, 1, 1), of(0, -11585, 11585), of(13377, -6688, -6688), of(9459, 9459, 9459)},
		{of(-1, 1, -1), of(0, 11585, 11585), of(13377, 6688, -6688), of(-9459, 9459, -9459)},
		{of(2, -1, 1), of(7326, 0, -14654), of(5982, 14956, 2990), of(13377, -6688, 6688)},
		{of(1, 2, -1), of(0, 7326, 14654), of(14956, -5982, 2990), of(6688, 13377, -6688)},
		{of(-1, 1, 2), of(0, -14654, 7326), of(14956, 2990, 5982), of(-6688, 6688, 13377)},
	} {
		want := basis.Basis{U: c.u, V: c.v, N: c.direction}
		if got, ok := basis.Of(c.n); got != want || !ok {
			t.Errorf("Of(%v) is %v, %t, not %v", c.n, got, ok, want)
		}
	}
}

// crossed is the direction of the cross product, coordinate by coordinate.
func crossed(a, b [3]int) api.Vec {
	var product [3]int
	for axis := range 3 {
		next, last := (axis+1)%3, (axis+2)%3
		product[axis] = a[next]*b[last] - a[last]*b[next]
	}
	direction, _ := vec.Unit(of(product[0], product[1], product[2]))
	return direction
}

// axisOf is the axis by which the definition begins, for the direction n.
func axisOf(n api.Vec) [3]int {
	x, y, z := n.X*n.X, n.Y*n.Y, n.Z*n.Z
	switch {
	case x <= y && x <= z:
		return [3]int{1, 0, 0}
	case y <= z:
		return [3]int{0, 1, 0}
	}
	return [3]int{0, 0, 1}
}

// TestOfDefinition: P7.1, the directions are those of the cross products, for vectors of every size and in all octants.
func TestOfDefinition(t *testing.T) {
	vectors := grid(1, -1, 5, -6, unit, 1-near, near+1, -far, far)
	vectors = append(vectors, scattered(500, 3)...)
	vectors = append(vectors, scattered(2000, near)...)
	vectors = append(vectors, scattered(2000, far/2)...)
	for _, n := range vectors {
		direction, has := vec.Unit(n)
		if !has {
			continue
		}
		u := crossed(axisOf(direction), list(direction))
		want := basis.Basis{U: u, V: crossed(list(direction), list(u)), N: direction}
		if got, ok := basis.Of(n); got != want || !ok {
			t.Fatalf("Of(%v) is %v, %t, not %v", n, got, ok, want)
		}
	}
}

// TestOfNone: P7.1, the zero vector, and coordinates beyond the bounds of a direction, along every axis, have no basis.
func TestOfNone(t *testing.T) {
	none := []api.Vec{of(0, 0, 0), of(far+1, far+1, far+1), of(least, least, least), of(most, most, most)}
	for _, n := range []int{far + 1, -far - 1, most, least + 1, least} {
		none = append(none, of(n, 0, 0), of(0, n, 0), of(0, 0, n), of(n, far, 1), of(1, n, -far), of(-far, 1, n))
	}
	for _, n := range none {
		if got, ok := basis.Of(n); got != (basis.Basis{}) || ok {
			t.Errorf("Of(%v) is %v, %t", n, got, ok)
		}
	}
}

// TestOutIn: P7.1, by cases: what is below 0 is rounded down, and only the whole sum is divided.
func TestOutIn(t *testing.T) {
	straight := basis.Basis{U: of(unit, 0, 0), V: of(0, unit, 0), N: of(0, 0, unit)}
	upward, _ := basis.Of(of(0, 0, 1))
	askew := basis.Basis{U: of(1, 2, 3), V: of(-4, 5, 6), N: of(7, -8, 9)}
	wide := basis.Basis{U: of(near, near, near), V: of(near, -near, near), N: of(near, near, -near)}
	for _, c := range []struct {
		b          basis.Basis
		v, out, in api.Vec
	}{
		{straight, of(1, -2, 3), of(1, -2, 3), of(1, -2, 3)},
		{straight, of(near, -near, 1-near), of(near, -near, 1-near), of(near, -near, 1-near)},
		{straight, of(0, 0, 0), of(0, 0, 0), of(0, 0, 0)},
		{upward, of(1, 2, 3), of(2, -1, 3), of(-2, 1, 3)},
		{upward, of(unit, 0, 0), of(0, -unit, 0), of(0, unit, 0)},
		{upward, of(0, -unit, 5), of(-unit, 0, 5), of(unit, 0, 5)},
		{askew, of(1, 0, 0), of(0, 0, 0), of(0, -1, 0)},
		{askew, of(-1, 0, 0), of(-1, -1, -1), of(-1, 0, -1)},
		{askew, of(0, 0, 1), of(0, -1, 0), of(0, 0, 0)},
		{askew, of(unit, 0, 0), of(1, 2, 3), of(1, -4, 7)},
		{askew, of(0, unit, 0), of(-4, 5, 6), of(2, 5, -8)},
		{askew, of(0, 0, unit), of(7, -8, 9), of(3, 6, 9)},
		{askew, of(unit/2, unit/2, unit/2), of(2, -1, 9), of(3, 3, 4)},
		{askew, of(-unit/2, -unit/2, -unit/2), of(-2, 0, -9), of(-3, -4, -4)},
		{wide, of(near, near, near), of(3<<26, 1<<26, 1<<26), of(3<<26, 1<<26, 1<<26)},
		{wide, of(-near, -near, -near), of(-3<<26, -1<<26, -1<<26), of(-3<<26, -1<<26, -1<<26)},
		{basis.Basis{}, of(near, -1, 3), of(0, 0, 0), of(0, 0, 0)},
	} {
		if got := c.b.Out(c.v); got != c.out {
			t.Errorf("Out of %v and %v is %v, not %v", c.b, c.v, got, c.out)
		}
		if got := c.b.In(c.v); got != c.in {
			t.Errorf("In of %v and %v is %v, not %v", c.b, c.v, got, c.in)
		}
	}
}

func exact(n int) *big.Int { return big.NewInt(int64(n)) }

// dot is the exact sum of the products of corresponding numbers.
func dot(a, b [3]int) *big.Int {
	all := new(big.Int)
	for place, n := range a {
		all.Add(all, new(big.Int).Mul(exact(n), exact(b[place])))
	}
	return all
}

// down is n divided by 2^bits, rounded down.
func down(n *big.Int, bits uint) int {
	return int(new(big.Int).Rsh(n, bits).Int64())
}

// TestOutInExact: P7.1, against exact numbers, with bases of any near vectors, orthogonal or not.
func TestOutInExact(t *testing.T) {
	all := nears()
	for i, v := range all {
		for j := range all {
			b := basis.Basis{U: all[j], V: all[(3*i+5*j+1)%len(all)], N: all[(7*i+2*j+3)%len(all)]}
			var out, in [3]int
			for axis := range 3 {
				along := [3]int{list(b.U)[axis], list(b.V)[axis], list(b.N)[axis]}
				out[axis] = down(dot(along, list(v)), 14)
				in[axis] = down(dot(list(directions(b)[axis]), list(v)), 14)
			}
			if got := b.Out(v); list(got) != out {
				t.Fatalf("Out of %v and %v is %v, not %v", b, v, got, out)
			}
			if got := b.In(v); list(got) != in {
				t.Fatalf("In of %v and %v is %v, not %v", b, v, got, in)
			}
		}
	}
}

// TestOutInStrays: P7.1, of a vector that is not near, or a basis with one, wherever it stands, nothing is computed.
func TestOutInStrays(t *testing.T) {
	b, _ := basis.Of(of(1, -2, 3))
	v := of(unit, -unit, 12345)
	for _, stray := range strays() {
		for _, c := range []struct {
			b basis.Basis
			v api.Vec
		}{
			{b, stray}, {basis.Basis{U: stray, V: stray, N: stray}, stray}, {basis.Basis{U: stray, V: stray, N: stray}, v},
			{basis.Basis{U: stray, V: b.V, N: b.N}, v}, {basis.Basis{U: b.U, V: stray, N: b.N}, v}, {basis.Basis{U: b.U, V: b.V, N: stray}, v},
			{basis.Basis{}, stray},
		} {
			if got := c.b.Out(c.v); got != of(0, 0, 0) {
				t.Errorf("Out of %v and %v is %v", c.b, c.v, got)
			}
			if got := c.b.In(c.v); got != of(0, 0, 0) {
				t.Errorf("In of %v and %v is %v", c.b, c.v, got)
			}
		}
	}
}

// TestBounds: P7.1 and P7.2, vectors with coordinates at the bounds are near yet, and of use.
func TestBounds(t *testing.T) {
	edges := grid(near, -near)
	for i, v := range edges {
		b := basis.Basis{U: v, V: edges[(i+1)%len(edges)], N: edges[(i+2)%len(edges)]}
		if b.Out(v) == of(0, 0, 0) || b.In(v) == of(0, 0, 0) {
			t.Errorf("nothing is computed of %v and %v", b, v)
		}
		if basis.Mirror(v, b.V) == of(0, 0, 0) || basis.Facing(v, b.V) == of(0, 0, 0) {
			t.Errorf("nothing is computed of %v and %v", v, b.V)
		}
	}
}

// TestMirror: P7.2, by cases: what is below 0 is rounded down before it is taken away, and the greatest there is.
func TestMirror(t *testing.T) {
	const great = 6 << 32 // of vectors at the bounds, the quotient
	for _, c := range []struct{ d, n, want api.Vec }{
		{of(0, 0, -unit), of(0, 0, unit), of(0, 0, unit)}, {of(0, 0, unit), of(0, 0, unit), of(0, 0, -unit)},
		{of(5, -6, 7), of(unit, 0, 0), of(-5, -6, 7)}, {of(5, -6, 7), of(-unit, 0, 0), of(-5, -6, 7)},
		{of(5, -6, 7), of(0, unit, 0), of(5, 6, 7)}, {of(5, -6, 7), of(0, -unit, 0), of(5, 6, 7)},
		{of(5, -6, 0), of(0, 0, unit), of(5, -6, 0)}, {of(0, 0, 0), of(1, 2, 3), of(0, 0, 0)}, {of(1, 2, 3), of(0, 0, 0), of(1, 2, 3)},
		{of(9830, -13107, 0), of(0, unit, 0), of(9830, 13107, 0)}, {of(unit, 0, 0), of(11585, 11585, 0), of(1, -16383, 0)}, {of(-unit, 0, 0), of(11585, 11585, 0), of(0, 16384, 0)},
		{of(1, 0, 0), of(1, 1, -1), of(1, 0, 1)}, {of(-1, 0, 0), of(1, 1, -1), of(0, 1, 0)},
		{of(1, 0, 0), of(unit/2, 0, 0), of(1, 0, 0)}, {of(2, 0, 0), of(unit/2, 0, 0), of(1, 0, 0)}, {of(-1, 0, 0), of(unit/2, 0, 0), of(0, 0, 0)},
		{of(1, 1, 0), of(unit/2, -unit/2, 0), of(1, 1, 0)}, {of(1, 0, 0), of(unit/2, -unit/2, 0), of(1, 1, 0)},
		{of(near, near, near), of(near, near, near), of(near-great, near-great, near-great)},
		{of(-near, -near, -near), of(near, near, near), of(great-near, great-near, great-near)},
		{of(near, -near, near), of(-near, near, -near), of(near-great, great-near, near-great)},
	} {
		if got := basis.Mirror(c.d, c.n); got != c.want {
			t.Errorf("Mirror(%v, %v) is %v, not %v", c.d, c.n, got, c.want)
		}
	}
}

// TestFacing: P7.2, by cases: a Dot of 0 is not greater than 0.
func TestFacing(t *testing.T) {
	for _, c := range []struct{ n, d, want api.Vec }{
		{of(0, 0, unit), of(0, 0, unit), of(0, 0, -unit)}, {of(0, 0, unit), of(0, 0, -unit), of(0, 0, unit)},
		{of(0, 0, -unit), of(0, 0, -unit), of(0, 0, unit)}, {of(0, 0, -unit), of(0, 0, unit), of(0, 0, -unit)},
		{of(1, 2, 3), of(0, 0, 0), of(1, 2, 3)}, {of(0, 0, 0), of(1, 2, 3), of(0, 0, 0)}, {of(1, 2, 3), of(3, 0, -1), of(1, 2, 3)}, {of(-1, -2, -3), of(3, 0, -1), of(-1, -2, -3)},
		{of(1, 2, 3), of(4, 0, -1), of(-1, -2, -3)}, {of(1, 2, 3), of(2, 0, -1), of(1, 2, 3)}, {of(1, -2, 3), of(1, 1, 1), of(-1, 2, -3)}, {of(1, -2, 3), of(1, 3, 1), of(1, -2, 3)},
		{of(near, near, -near), of(near, near, near), of(-near, -near, near)}, {of(near, near, near), of(-near, -near, -near), of(near, near, near)}, {of(-near, near, 0), of(near, near, -near), of(-near, near, 0)},
	} {
		if got := basis.Facing(c.n, c.d); got != c.want {
			t.Errorf("Facing(%v, %v) is %v, not %v", c.n, c.d, got, c.want)
		}
	}
}

// mirrored is what Mirror makes of near vectors, by exact numbers.
func mirrored(d, n api.Vec) [3]int {
	twice := dot(list(d), list(n))
	twice.Lsh(twice, 1)
	var all [3]int
	for axis := range 3 {
		back := new(big.Int).Mul(twice, exact(list(n)[axis]))
		all[axis] = list(d)[axis] - down(back, 28)
	}
	return all
}

// TestMirrorFacingExact: P7.2, against exact numbers.
func TestMirrorFacingExact(t *testing.T) {
	all := nears()
	for _, a := range all {
		for _, b := range all {
			if got, want := basis.Mirror(a, b), mirrored(a, b); list(got) != want {
				t.Fatalf("Mirror(%v, %v) is %v, not %v", a, b, got, want)
			}
			want := a
			if dot(list(a), list(b)).Sign() > 0 {
				want = of(-a.X, -a.Y, -a.Z)
			}
			if got := basis.Facing(a, b); got != want {
				t.Fatalf("Facing(%v, %v) is %v, not %v", a, b, got, want)
			}
		}
	}
}

// TestMirrorFacingStrays: P7.2, of vectors that are not near, wherever they stand, nothing is computed.
func TestMirrorFacingStrays(t *testing.T) {
	for _, stray := range strays() {
		for _, v := range []api.Vec{of(0, 0, 0), of(1, 2, 3), of(-unit, unit, -5), of(near, near, -near), stray} {
			for place, got := range []api.Vec{basis.Mirror(stray, v), basis.Mirror(v, stray), basis.Facing(stray, v), basis.Facing(v, stray)} {
				if got != of(0, 0, 0) {
					t.Errorf("of %v, which is not near, and %v, vector %d is %v", stray, v, place, got)
				}
			}
		}
	}
}

// TestOrthogonal: P7.3, the lengths of the directions of a basis, and how nearly orthogonal they are.
func TestOrthogonal(t *testing.T) {
	for _, b := range bases(t) {
		all := directions(b)
		for place, v := range all {
			if square := vec.Dot(v, v); square < 16382*16382 || square > 16385*16385 {
				t.Fatalf("of %v, direction %d has the square %d", b, place, square)
			}
			if dot := vec.Dot(v, all[(place+1)%3]); dot < -32768 || dot > 32768 {
				t.Fatalf("of %v, direction %d and the next one have the Dot %d", b, place, dot)
			}
		}
	}
}

// apart is by how much coordinates of a and b differ at most.
func apart(a, b api.Vec) int {
	greatest := 0
	for axis, n := range list(a) {
		greatest = max(greatest, n-list(b)[axis], list(b)[axis]-n)
	}
	return greatest
}

// TestThereAndBack: P7.3, In of Out, and mirroring twice, lead back, or nearly so.
func TestThereAndBack(t *testing.T) {
	all := append(grid(0, 1, -unit, unit), scattered(60, unit)...)
	for _, b := range bases(t) {
		for _, v := range all {
			if got := b.In(b.Out(v)); apart(got, v) > 16 {
				t.Fatalf("In of Out of %v and %v is %v", b, v, got)
			}
			for _, n := range directions(b) {
				if got := basis.Mirror(basis.Mirror(v, n), n); apart(got, v) > 48 {
					t.Fatalf("mirrored twice by %v, %v is %v", n, v, got)
				}
			}
		}
	}
}
