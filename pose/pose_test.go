package pose_test

import (
	"math"
	"math/big"
	"math/rand/v2"
	"slices"
	"testing"

	"skylight/api"
	"skylight/pose"
	"skylight/trig"
)

const (
	least   = math.MinInt
	most    = math.MaxInt
	near    = 1 << 20 // as far as near coordinates go
	unit    = 16384   // what the identity has in its rows
	circle  = 65536   // the turns of a full circle
	quarter = circle / 4
	sizes   = 64 // as far as the sides of sizes go
)

// of is the vector with these coordinates.
func of(x, y, z int) api.Vec { return api.Vec{X: x, Y: y, Z: z} }

// list holds the coordinates of v.
func list(v api.Vec) [3]int { return [3]int{v.X, v.Y, v.Z} }

// rows holds those of p.
func rows(p pose.Pose) [3]api.Vec { return [3]api.Vec{p.X, p.Y, p.Z} }

// identity is written out here, for tests of what else there is in a pose.
func identity() pose.Pose {
	return pose.Pose{X: of(unit, 0, 0), Y: of(0, unit, 0), Z: of(0, 0, unit)}
}

// grid holds every vector that has its coordinates out of numbers.
func grid(numbers ...int) []api.Vec {
	var all []api.Vec
	for _, x := range numbers {
		for _, y := range numbers {
			for _, z := range numbers {
				all = append(all, of(x, y, z))
			}
		}
	}
	return all
}

// scattered holds vectors without a pattern, with coordinates from -bound to bound.
func scattered(count, bound int) []api.Vec {
	random := rand.New(rand.NewPCG(8, uint64(bound)))
	below := func() int { return random.IntN(2*bound+1) - bound }
	var all []api.Vec
	for range count {
		all = append(all, of(below(), below(), below()))
	}
	return all
}

// nears holds near vectors, many with coordinates at the edges.
func nears() []api.Vec {
	all := grid(0, 1, -1, near, -near)
	all = append(all, of(unit, 0, 0), of(0, -unit, 0), of(9459, -9459, 9459), of(3, 4, -5), of(near-1, 1-near, near), of(-12345, 54321, 999983))
	return append(all, scattered(40, near)...)
}

// strays holds vectors that are not near, each along one axis at least.
func strays() []api.Vec {
	all := []api.Vec{of(near+1, near+1, near+1), of(least, least, least), of(most, most, most), of(most, least, 0)}
	for _, n := range []int{near + 1, -near - 1, 2 * near, 1 << 32, -1 << 32, 1 << 62, -1 << 62, most, least + 1, least} {
		all = append(all, of(n, 0, 0), of(0, n, 0), of(0, 0, n), of(n, 5, near), of(-near, n, 5), of(5, near, n))
	}
	return all
}

// poses holds valid ones: the identity, those of every kind, and those with any near rows and moves.
func poses() []pose.Pose {
	all := []pose.Pose{{}, identity()}
	for axis := range 3 {
		for _, h := range []int{1, 5000, quarter, 30000, 2 * quarter, -quarter, -77} {
			all = append(all, pose.Turned(axis, h))
		}
	}
	for _, n := range []int{1, 2, 3, 7, 63, sizes} {
		all = append(all, pose.Sized(n, 1), pose.Sized(1, n), pose.Sized(5, n))
	}
	vectors := nears()
	for i, v := range vectors {
		moved, at := identity(), func(place int) api.Vec { return vectors[place%len(vectors)] }
		moved.Move = v
		all = append(all, moved, pose.Pose{X: v, Y: at(3*i + 1), Z: at(5*i + 2), Move: at(7*i + 3)})
	}
	return all
}

// broken holds poses that are not valid: a row or more, or the move, is not near.
func broken() []pose.Pose {
	var all []pose.Pose
	for _, stray := range strays() {
		whole := pose.Pose{X: stray, Y: stray, Z: stray, Move: stray}
		x, y, z, moved := identity(), identity(), identity(), identity()
		x.X, y.Y, z.Z, moved.Move = stray, stray, stray, stray
		all = append(all, whole, x, y, z, moved, pose.Pose{Move: stray}, pose.Pose{Y: stray})
	}
	return all
}

// TestRight: P8.1, a pose is valid up to the bounds of near vectors, and is not if one row, or the move alone, is beyond them.
func TestRight(t *testing.T) {
	for _, p := range poses() {
		if !pose.Right(p) {
			t.Errorf("%v is not valid", p)
		}
	}
	for _, v := range grid(near, -near) {
		if p := (pose.Pose{X: v, Y: v, Z: v, Move: v}); !pose.Right(p) {
			t.Errorf("%v is not valid", p)
		}
	}
	for _, p := range broken() {
		if pose.Right(p) {
			t.Errorf("%v is valid", p)
		}
	}
}

// TestNone: P8.1, the identity.
func TestNone(t *testing.T) {
	if got := pose.None(); got != identity() {
		t.Errorf("None is %v", got)
	}
}

// TestTurned: P8.1, by cases: about each axis, also by turns below 0 and beyond a full circle.
func TestTurned(t *testing.T) {
	const slant = 11565 // the sine and the cosine of an eighth of a circle
	for _, c := range []struct{ axis, h, cos, sin int }{
		{0, 0, unit, 0}, {1, 0, unit, 0}, {2, 0, unit, 0},
		{0, quarter, 0, unit}, {1, quarter, 0, unit}, {2, quarter, 0, unit},
		{0, 2 * quarter, -unit, 0}, {1, 2 * quarter, -unit, 0}, {2, 2 * quarter, -unit, 0},
		{0, 3 * quarter, 0, -unit}, {1, 3 * quarter, 0, -unit}, {2, 3 * quarter, 0, -unit},
		{0, -quarter, 0, -unit}, {1, -quarter, 0, -unit}, {2, -quarter, 0, -unit},
		{0, 8192, slant, slant}, {1, 8192, slant, slant}, {2, 8192, slant, slant},
		{0, -8192, slant, -slant}, {1, -8192, slant, -slant}, {2, -8192, slant, -slant},
		{0, 3 * 8192, -slant, slant}, {1, 3 * 8192, -slant, slant}, {2, 3 * 8192, -slant, slant},
		{0, circle, unit, 0}, {1, circle + quarter, 0, unit}, {2, 5*circle + 8192, slant, slant},
		{0, -circle, unit, 0}, {1, -circle - quarter, 0, -unit}, {2, -7*circle - 8192, slant, -slant},
		{0, least, unit, 0}, {1, least + quarter, 0, unit}, {2, least + 8192, slant, slant},
	} {
		want := identity()
		switch c.axis {
		case 0:
			want.Y, want.Z = of(0, c.cos, -c.sin), of(0, c.sin, c.cos)
		case 1:
			want.Z, want.X = of(-c.sin, 0, c.cos), of(c.cos, 0, c.sin)
		case 2:
			want.X, want.Y = of(c.cos, -c.sin, 0), of(c.sin, c.cos, 0)
		}
		if got := pose.Turned(c.axis, c.h); got != want {
			t.Errorf("Turned(%d, %d) is %v, not %v", c.axis, c.h, got, want)
		}
	}
}

// turns holds those of a circle either way, and those at the ends of the ints.
func turns() []int {
	all := []int{most, most - 1, most - quarter, least, least + 1, least + quarter + 1, 1 << 40, -1 << 40}
	for h := -circle - 100; h <= circle+100; h += 37 {
		all = append(all, h, h/quarter*quarter)
	}
	return all
}

// TestTurnedRows: P8.1, where the cosine and the sine of any turn stand.
func TestTurnedRows(t *testing.T) {
	for _, h := range turns() {
		cos, sin := trig.Both(h)
		for axis, want := range []pose.Pose{
			{X: of(unit, 0, 0), Y: of(0, cos, -sin), Z: of(0, sin, cos)},
			{X: of(cos, 0, sin), Y: of(0, unit, 0), Z: of(-sin, 0, cos)},
			{X: of(cos, -sin, 0), Y: of(sin, cos, 0), Z: of(0, 0, unit)},
		} {
			if got := pose.Turned(axis, h); got != want {
				t.Fatalf("Turned(%d, %d) is %v, not %v", axis, h, got, want)
			}
		}
	}
}

// TestTurnedNone: P8.1, about an axis that is none, nothing is turned.
func TestTurnedNone(t *testing.T) {
	for _, axis := range []int{3, 4, 5, 255, 256, 1 << 32, most, -1, -2, -3, -1 << 32, least} {
		for _, h := range []int{0, 5, 8192, quarter, -quarter, most, least} {
			if got := pose.Turned(axis, h); got != identity() {
				t.Errorf("Turned(%d, %d) is %v", axis, h, got)
			}
		}
	}
}

// scaled is the pose with size in place of what the identity has.
func scaled(size int) pose.Pose {
	return pose.Pose{X: of(size, 0, 0), Y: of(0, size, 0), Z: of(0, 0, size)}
}

// TestSized: P8.1, by cases: at both bounds of either side, just beyond them, and with quotients that are rounded down.
func TestSized(t *testing.T) {
	for _, c := range []struct{ n, d, size int }{
		{1, 1, unit}, {64, 64, unit}, {7, 7, unit}, {1, 2, 8192}, {2, 1, 32768}, {64, 1, near}, {1, 64, 256}, {63, 64, 16128}, {64, 63, 16644},
		{1, 3, 5461}, {2, 3, 10922}, {4, 3, 21845}, {5, 3, 27306}, {1, 63, 260}, {63, 1, 1032192}, {5, 7, 11702}, {1, 5, 3276},
		{0, 1, unit}, {0, 2, unit}, {65, 1, unit}, {65, 2, unit}, {1, 0, unit}, {2, 0, unit}, {1, 65, unit}, {64, 65, unit}, {65, 64, unit}, {0, 0, unit}, {65, 65, unit},
		{-1, 1, unit}, {1, -1, unit}, {-1, -1, unit}, {-2, -1, unit}, {most, 1, unit}, {1, most, unit}, {least, 1, unit}, {2, least, unit}, {most, most, unit}, {least, least, unit},
		{1 << 50, 3, unit}, {1<<50 + 1, 3, unit},
	} {
		if got := pose.Sized(c.n, c.d); got != scaled(c.size) {
			t.Errorf("Sized(%d, %d) is %v, not of %d", c.n, c.d, got, c.size)
		}
	}
}

// TestSizedAll: P8.1, each size that there is, and those about them.
func TestSizedAll(t *testing.T) {
	for n := -2; n <= sizes+2; n++ {
		for d := -2; d <= sizes+2; d++ {
			size := unit
			if n >= 1 && n <= sizes && d >= 1 && d <= sizes {
				size = unit * n / d
			}
			if got := pose.Sized(n, d); got != scaled(size) {
				t.Errorf("Sized(%d, %d) is %v, not of %d", n, d, got, size)
			}
		}
	}
}

// TestMoved: P8.1, a near move is kept, and one that is not near is none.
func TestMoved(t *testing.T) {
	for _, v := range nears() {
		want := identity()
		want.Move = v
		if got := pose.Moved(v); got != want {
			t.Errorf("Moved(%v) is %v", v, got)
		}
	}
	for _, v := range strays() {
		if got := pose.Moved(v); got != identity() {
			t.Errorf("Moved(%v) is %v", v, got)
		}
	}
}

// TestPut: P8.2, by cases, with the chapter's example: what is below 0 is rounded down, row by row, before it is moved.
func TestPut(t *testing.T) {
	odd := pose.Pose{X: of(1, 2, 3), Y: of(-4, 5, -6), Z: of(7, -8, 9), Move: of(100, -200, 300)}
	wide := pose.Pose{X: of(near, near, near), Y: of(near, -near, near), Z: of(-near, -near, -near), Move: of(near, -near, 1)}
	for _, c := range []struct {
		p       pose.Pose
		v, want api.Vec
	}{
		{pose.Turned(2, quarter), of(5, 0, 0), of(0, 5, 0)}, {pose.Turned(2, quarter), of(0, 5, 0), of(-5, 0, 0)}, {pose.Turned(2, quarter), of(0, 0, 5), of(0, 0, 5)},
		{pose.Turned(0, quarter), of(5, 0, 0), of(5, 0, 0)}, {pose.Turned(0, quarter), of(0, 5, 0), of(0, 0, 5)}, {pose.Turned(0, quarter), of(0, 0, 5), of(0, -5, 0)},
		{pose.Turned(1, quarter), of(5, 0, 0), of(0, 0, -5)}, {pose.Turned(1, quarter), of(0, 5, 0), of(0, 5, 0)}, {pose.Turned(1, quarter), of(0, 0, 5), of(5, 0, 0)},
		{pose.Turned(2, 8192), of(10, 0, 0), of(7, 7, 0)}, {pose.Turned(2, 8192), of(-10, 0, 0), of(-8, -8, 0)}, {pose.Turned(2, 8192), of(0, 10, 0), of(-8, 7, 0)},
		{pose.Sized(1, 2), of(5, -5, 4), of(2, -3, 2)}, {pose.Sized(3, 1), of(5, -5, 4), of(15, -15, 12)}, {pose.Sized(1, 3), of(3, -3, 6), of(0, -1, 1)}, {pose.Sized(1, 64), of(-1, 63, 64), of(-1, 0, 1)},
		{pose.Moved(of(1, -2, 3)), of(5, -5, 4), of(6, -7, 7)}, {pose.Moved(of(near, -near, 0)), of(near, -near, 0), of(2*near, -2*near, 0)},
		{odd, of(0, 0, 0), of(100, -200, 300)}, {odd, of(1, 0, 0), of(100, -201, 300)}, {odd, of(0, 1, 0), of(100, -200, 299)}, {odd, of(-1, 0, 0), of(99, -200, 299)},
		{odd, of(unit, 0, 0), of(101, -204, 307)}, {odd, of(0, unit, 0), of(102, -195, 292)}, {odd, of(0, 0, -unit), of(97, -194, 291)},
		{odd, of(unit/2, unit/2, unit/2), of(103, -203, 304)}, {odd, of(-unit/2, -unit/2, -unit/2), of(97, -198, 296)},
		{wide, of(near, near, near), of(3<<26+near, 1<<26-near, -3<<26+1)}, {wide, of(-near, -near, -near), of(-3<<26+near, -1<<26-near, 3<<26+1)},
		{pose.Pose{}, of(5, 6, 7), of(0, 0, 0)}, {pose.Pose{Move: of(1, 2, 3)}, of(near, near, near), of(1, 2, 3)},
	} {
		if got := pose.Put(c.p, c.v); got != c.want {
			t.Errorf("%v, put to %v, gives %v, not %v", c.p, c.v, got, c.want)
		}
	}
}

// part is the exact sum of the products of corresponding numbers, divided by 2^14, rounded down.
func part(a, b [3]int) int {
	all := new(big.Int)
	for place, n := range a {
		all.Add(all, new(big.Int).Mul(big.NewInt(int64(n)), big.NewInt(int64(b[place]))))
	}
	return int(all.Rsh(all, 14).Int64())
}

// applied is the pose p, applied to v by exact numbers.
func applied(p pose.Pose, v api.Vec) api.Vec {
	all := list(p.Move)
	for axis, row := range rows(p) {
		all[axis] += part(list(row), list(v))
	}
	return of(all[0], all[1], all[2])
}

// TestPutAllExact: P8.2, against exact numbers: one by one, and all together, in their order.
func TestPutAllExact(t *testing.T) {
	vectors := nears()
	for _, p := range poses() {
		var want []api.Vec
		for _, v := range vectors {
			all := applied(p, v)
			if got := pose.Put(p, v); got != all {
				t.Fatalf("%v, put to %v, gives %v, not %v", p, v, got, all)
			}
			want = append(want, all)
		}
		if got := pose.All(p, vectors); !slices.Equal(got, want) {
			t.Fatalf("%v, put to all, gives %v, not %v", p, got, want)
		}
	}
}

// TestPutStrays: P8.2, of a pose that is not valid, or a vector that is not near, nothing is computed, and nothing is moved.
func TestPutStrays(t *testing.T) {
	moved := pose.Moved(of(1, 2, 3))
	for _, stray := range strays() {
		for _, p := range []pose.Pose{{}, identity(), moved, pose.Turned(1, 77)} {
			if got := pose.Put(p, stray); got != of(0, 0, 0) {
				t.Errorf("%v, put to %v, gives %v", p, stray, got)
			}
		}
	}
	for _, p := range broken() {
		for _, v := range []api.Vec{of(0, 0, 0), of(1, -2, 3), of(unit, unit, unit), of(near, near, near), of(near+1, 0, 0)} {
			if got := pose.Put(p, v); got != of(0, 0, 0) {
				t.Errorf("%v, put to %v, gives %v", p, v, got)
			}
		}
	}
}

// TestAllEdges: P8.2, an empty list, vectors that are not near among others, and a pose that is not valid: an element for each.
func TestAllEdges(t *testing.T) {
	moved := pose.Moved(of(10, 20, 30))
	for _, p := range []pose.Pose{{}, moved, broken()[0]} {
		if got := pose.All(p, nil); len(got) != 0 {
			t.Errorf("%v, put to none, gives %v", p, got)
		}
		if got := pose.All(p, make([]api.Vec, 0, 5)); len(got) != 0 {
			t.Errorf("%v, put to none, gives %v", p, got)
		}
	}
	mixed := []api.Vec{of(1, 2, 3), of(near+1, 0, 0), of(0, 0, 0), of(0, least, 0), of(1, 2, 3)}
	want := []api.Vec{of(11, 22, 33), {}, of(10, 20, 30), {}, of(11, 22, 33)}
	if got := pose.All(moved, mixed); !slices.Equal(got, want) {
		t.Errorf("%v, put to %v, gives %v", moved, mixed, got)
	}
	for _, p := range broken() {
		if got := pose.All(p, mixed); !slices.Equal(got, make([]api.Vec, len(mixed))) {
			t.Errorf("%v, put to %v, gives %v", p, mixed, got)
		}
	}
}

// TestAllApart: P8.2, the vectors that are given are left as they are, and the answer is none of them; what lies beyond the list is not touched.
func TestAllApart(t *testing.T) {
	whole := []api.Vec{of(1, 2, 3), of(4, 5, 6), of(7, 8, 9)}
	before := slices.Clone(whole)
	got := pose.All(pose.Moved(of(1, 1, 1)), whole[:2])
	if !slices.Equal(got, []api.Vec{of(2, 3, 4), of(5, 6, 7)}) || !slices.Equal(whole, before) {
		t.Fatalf("All gives %v, and leaves %v", got, whole)
	}
	clear(got)
	if !slices.Equal(whole, before) {
		t.Errorf("All shares %v", whole)
	}
}

// TestThen: P8.2, by cases: the first pose comes first, and each product is rounded down.
func TestThen(t *testing.T) {
	odd := pose.Pose{X: of(1, 2, 3), Y: of(-4, 5, -6), Z: of(7, -8, 9), Move: of(100, -200, 300)}
	with := func(p pose.Pose, x, y, z int) pose.Pose {
		p.Move = of(x, y, z)
		return p
	}
	for _, c := range []struct{ a, b, want pose.Pose }{
		{identity(), odd, odd}, {odd, identity(), odd}, {identity(), identity(), identity()},
		{pose.Moved(of(1, 2, 3)), pose.Moved(of(10, -20, 30)), with(identity(), 11, -18, 33)},
		{pose.Moved(of(5, 0, 0)), pose.Turned(2, quarter), with(pose.Turned(2, quarter), 0, 5, 0)},
		{pose.Turned(2, quarter), pose.Moved(of(5, 0, 0)), with(pose.Turned(2, quarter), 5, 0, 0)},
		{pose.Turned(0, quarter), pose.Turned(1, quarter), pose.Pose{X: of(0, unit, 0), Y: of(0, 0, -unit), Z: of(-unit, 0, 0)}},
		{pose.Turned(1, quarter), pose.Turned(0, quarter), pose.Pose{X: of(0, 0, unit), Y: of(unit, 0, 0), Z: of(0, unit, 0)}},
		{pose.Sized(1, 2), pose.Moved(of(4, 6, 8)), with(scaled(8192), 4, 6, 8)}, {pose.Moved(of(5, -5, 8)), pose.Sized(1, 2), with(scaled(8192), 2, -3, 4)},
		{odd, pose.Sized(1, 2), pose.Pose{X: of(0, 1, 1), Y: of(-2, 2, -3), Z: of(3, -4, 4), Move: of(50, -100, 150)}},
		{odd, pose.Sized(3, 1), pose.Pose{X: of(3, 6, 9), Y: of(-12, 15, -18), Z: of(21, -24, 27), Move: of(300, -600, 900)}},
		{odd, pose.Turned(2, quarter), pose.Pose{X: of(4, -5, 6), Y: of(1, 2, 3), Z: of(7, -8, 9), Move: of(200, 100, 300)}},
		{pose.Turned(2, quarter), odd, pose.Pose{X: of(2, -1, 3), Y: of(5, 4, -6), Z: of(-8, -7, 9), Move: of(100, -200, 300)}},
		{odd, odd, pose.Pose{X: of(0, -1, 0), Y: of(-1, 0, -1), Z: of(0, -1, 0), Move: of(100, -201, 300)}},
		{pose.Sized(64, 1), pose.Sized(64, 1), scaled(64 * near)}, {pose.Sized(1, 64), pose.Sized(1, 64), scaled(4)},
		{pose.Moved(of(near, near, near)), pose.Moved(of(near, -near, 1)), with(identity(), 2*near, 0, near+1)},
		{pose.Pose{}, odd, pose.Pose{Move: of(100, -200, 300)}}, {odd, pose.Pose{}, pose.Pose{}},
	} {
		if got := pose.Then(c.a, c.b); got != c.want {
			t.Errorf("%v, then %v, is %v, not %v", c.a, c.b, got, c.want)
		}
	}
}

// joined is the pose of a and then b, by exact numbers.
func joined(a, b pose.Pose) pose.Pose {
	var all [3]api.Vec
	for place, row := range rows(b) {
		var products [3]int
		for axis := range products {
			products[axis] = part(list(row), [3]int{list(a.X)[axis], list(a.Y)[axis], list(a.Z)[axis]})
		}
		all[place] = of(products[0], products[1], products[2])
	}
	return pose.Pose{X: all[0], Y: all[1], Z: all[2], Move: applied(b, a.Move)}
}

// TestThenExact: P8.2, against exact numbers, also where the products are not near any more.
func TestThenExact(t *testing.T) {
	all := poses()
	for _, a := range all {
		for _, b := range all {
			if got, want := pose.Then(a, b), joined(a, b); got != want {
				t.Fatalf("%v, then %v, is %v, not %v", a, b, got, want)
			}
		}
	}
}

// TestThenBroken: P8.2, of poses of which one is not valid, or both, the zero pose is made.
func TestThenBroken(t *testing.T) {
	for _, p := range broken() {
		for _, other := range []pose.Pose{{}, identity(), pose.Turned(2, 77), pose.Sized(5, 3), pose.Moved(of(1, 2, 3)), p} {
			if got := pose.Then(p, other); got != (pose.Pose{}) {
				t.Errorf("%v, then %v, is %v", p, other, got)
			}
			if got := pose.Then(other, p); got != (pose.Pose{}) {
				t.Errorf("%v, then %v, is %v", other, p, got)
			}
		}
	}
}

// steady holds poses that lose nothing: quarter turns, either way, and moves.
func steady() []pose.Pose {
	var all []pose.Pose
	for axis := range 3 {
		for turn := -5; turn <= 5; turn++ {
			all = append(all, pose.Turned(axis, turn*quarter))
		}
	}
	for _, v := range []api.Vec{of(0, 0, 0), of(1, -2, 3), of(-unit, 12345, 7), of(1<<18, 1<<18, -1<<18)} {
		all = append(all, pose.Moved(v))
	}
	return all
}

// TestAtOnce: P8.3, quarter turns and moves that are applied one after the other are applied at once by one pose.
func TestAtOnce(t *testing.T) {
	vectors := append(grid(0, 1, -1, 1<<18, -1<<18), scattered(20, 1<<18)...)
	all := steady()
	for _, a := range all {
		for _, b := range all {
			both := pose.Then(a, b)
			for place, c := range all {
				v := vectors[place%len(vectors)]
				want := pose.Put(c, pose.Put(b, pose.Put(a, v)))
				if got := pose.Put(pose.Then(both, c), v); got != want {
					t.Fatalf("%v, %v and %v at once, put to %v, give %v, not %v", a, b, c, v, got, want)
				}
			}
			for _, v := range vectors {
				if got, want := pose.Put(both, v), pose.Put(b, pose.Put(a, v)); got != want {
					t.Fatalf("%v and %v at once, put to %v, give %v, not %v", a, b, v, got, want)
				}
			}
		}
	}
}

// TestFourQuarters: P8.3, four quarter turns about an axis, either way, are the identity.
func TestFourQuarters(t *testing.T) {
	for axis := range 3 {
		for _, h := range []int{quarter, -quarter, circle + quarter} {
			all := pose.None()
			for range 4 {
				if all = pose.Then(all, pose.Turned(axis, h)); !pose.Right(all) {
					t.Fatalf("%v is not valid", all)
				}
			}
			if all != pose.None() {
				t.Errorf("four turns of %d about axis %d are %v", h, axis, all)
			}
		}
	}
}

// TestIdentity: P8.3, the identity changes no vector and no pose.
func TestIdentity(t *testing.T) {
	for _, v := range nears() {
		if got := pose.Put(pose.None(), v); got != v {
			t.Errorf("the identity, put to %v, gives %v", v, got)
		}
	}
	for _, p := range poses() {
		if got := pose.Then(p, pose.None()); got != p {
			t.Errorf("%v and the identity are %v", p, got)
		}
		if got := pose.Then(pose.None(), p); got != p {
			t.Errorf("the identity and %v are %v", p, got)
		}
	}
}
