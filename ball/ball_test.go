package ball_test

import (
	"math"
	"math/big"
	"math/rand/v2"
	"testing"

	"skylight/api"
	"skylight/ball"
	"skylight/vec"
)

const (
	least    = math.MinInt
	most     = math.MaxInt
	edge     = 1 << 19 // as far as places go
	near     = 1 << 20 // as far as near coordinates go
	thin     = 4       // the least radius
	thick    = 1 << 18 // the greatest radius
	straight = 16384   // the length of a direction
)

// sphere is a ball.
type sphere struct {
	c api.Vec
	r int
}

// of is the vector with these coordinates.
func of(x, y, z int) api.Vec { return api.Vec{X: x, Y: y, Z: z} }

// list holds the coordinates of v.
func list(v api.Vec) [3]int { return [3]int{v.X, v.Y, v.Z} }

// made is the vector of what along answers, axis by axis.
func made(along func(axis int) int) api.Vec { return of(along(0), along(1), along(2)) }

// plus is a + b.
func plus(a, b api.Vec) api.Vec { return of(a.X+b.X, a.Y+b.Y, a.Z+b.Z) }

// minus is a - b.
func minus(a, b api.Vec) api.Vec { return of(a.X-b.X, a.Y-b.Y, a.Z-b.Z) }

// times is v n times.
func times(v api.Vec, n int) api.Vec { return of(v.X*n, v.Y*n, v.Z*n) }

// extent is how far the coordinates of v go from 0; none is the least int.
func extent(v api.Vec) int { return max(v.X, -v.X, v.Y, -v.Y, v.Z, -v.Z) }

// held is v with each coordinate held from -bound to bound.
func held(v api.Vec, bound int) api.Vec {
	return made(func(axis int) int { return max(min(list(v)[axis], bound), -bound) })
}

// grid holds every vector that has its coordinates out of numbers.
func grid(numbers ...int) []api.Vec {
	var all []api.Vec
	for _, x := range numbers {
		for _, y := range numbers {
			for _, z := range numbers {
				all = append(all, of(x, y, z))
			}
		}
	}
	return all
}

// scattered holds vectors without a pattern, with coordinates from -bound to bound.
func scattered(count, bound int) []api.Vec {
	random := rand.New(rand.NewPCG(12, uint64(bound)))
	below := func() int { return random.IntN(2*bound+1) - bound }
	var all []api.Vec
	for range count {
		all = append(all, of(below(), below(), below()))
	}
	return all
}

// strays holds vectors that are no places, each along one axis at least.
func strays() []api.Vec {
	all := []api.Vec{of(edge+1, edge+1, edge+1), of(least, least, least), of(most, most, most), of(most, least, 0)}
	for _, n := range []int{edge + 1, -edge - 1, near, -near, near + 1, -near - 1, 1 << 32, -1 << 32, 1 << 62, -1 << 62, most, least + 1, least} {
		all = append(all, of(n, 0, 0), of(0, n, 0), of(0, 0, n), of(n, 5, edge), of(-edge, n, 5), of(5, edge, n))
	}
	return all
}

// narrow holds places that only just are some, by a coordinate at least.
func narrow() []api.Vec { return append(grid(-edge, 0, edge), of(1, 2, edge), of(-edge, 3, 4)) }

// radii holds some of balls: both bounds, what is beside them, and some between.
func radii() []int { return []int{thin, thin + 1, 6, 9, 100, 4097, 100000, thick - 1, thick} }

// odd holds radii of no ball.
func odd() []int {
	return []int{3, 2, 1, 0, -1, -3, -4, -5, -thick, thick + 1, thick + 2, 2 * thick, edge, near, 1 << 31, 1 << 32, 1<<32 + 5, 1 << 62, most - 1, most, least, least + 4, least + 1, -1 << 32}
}

// balls holds balls of every size, up to the edges of places.
func balls() []sphere {
	var all []sphere
	for place, r := range radii() {
		all = append(all, sphere{of(0, 0, 0), r}, sphere{narrow()[place], r}, sphere{scattered(20, edge)[place], r}, sphere{scattered(20, 9)[place], r}, sphere{of(edge, edge, -edge), r})
	}
	return all
}

// broken holds what is no ball, by its center, by its radius, or by both.
func broken() []sphere {
	var all []sphere
	for place, r := range odd() {
		all = append(all, sphere{of(0, 0, 0), r}, sphere{narrow()[place%9], r}, sphere{of(edge+1, 0, 0), r}, sphere{of(least, most, least), r})
	}
	for place, v := range strays() {
		all = append(all, sphere{v, thin}, sphere{v, thick}, sphere{v, radii()[place%9]})
	}
	return all
}

// ways holds (1, 2, 2) and others whose length is a whole number, in every order and to every side, and that length.
func ways() map[api.Vec]int {
	all := map[api.Vec]int{}
	for _, w := range [][4]int{{0, 0, 1, 1}, {0, 3, 4, 5}, {1, 2, 2, 3}, {2, 3, 6, 7}, {1, 4, 8, 9}, {2, 6, 9, 11}} {
		for _, turn := range [][3]int{{0, 1, 2}, {1, 2, 0}, {2, 0, 1}, {0, 2, 1}, {2, 1, 0}, {1, 0, 2}} {
			for _, sides := range grid(-1, 1) {
				all[made(func(axis int) int { return w[turn[axis]] * list(sides)[axis] })] = w[3]
			}
		}
	}
	return all
}

// exact is n as an exact number.
func exact(n int) *big.Int { return big.NewInt(int64(n)) }

// dot is the exact sum of the products of corresponding coordinates.
func dot(a, b api.Vec) *big.Int {
	all := new(big.Int)
	for axis, n := range list(a) {
		all.Add(all, new(big.Int).Mul(exact(n), exact(list(b)[axis])))
	}
	return all
}

// square is the exact one of n.
func square(n int) *big.Int { return new(big.Int).Mul(exact(n), exact(n)) }

// TestRight: P12.1, every radius about both bounds, and centers that are places and others.
func TestRight(t *testing.T) {
	for r := -50; r <= 50; r++ {
		if got, want := ball.Right(of(1, -2, 3), r), r >= 4; got != want {
			t.Errorf("there is a ball of the radius %d: %t", r, got)
		}
		if got, want := ball.Right(of(-1, 2, edge), 262144+r), r <= 0; got != want {
			t.Errorf("there is a ball of the radius %d: %t", 262144+r, got)
		}
	}
	for _, s := range balls() {
		if !ball.Right(s.c, s.r) {
			t.Errorf("%v is no ball", s)
		}
	}
	for _, s := range broken() {
		if ball.Right(s.c, s.r) {
			t.Errorf("%v is a ball", s)
		}
	}
	for _, v := range grid(-edge-1, -edge, 0, edge, edge+1) {
		for _, r := range []int{3, 4, thick, thick + 1} {
			want := extent(v) <= edge && r >= 4 && r <= thick
			if got := ball.Right(v, r); got != want {
				t.Errorf("there is a ball around %v of the radius %d: %t", v, r, got)
			}
		}
	}
}

// TestNormal: P12.2, by cases: along each axis, across, rounded toward 0, and from the center to itself.
func TestNormal(t *testing.T) {
	up := of(0, 0, straight)
	for _, c := range []struct{ c, at, want api.Vec }{
		{of(0, 0, 0), of(0, 0, 0), up}, {of(5, -6, 7), of(5, -6, 7), up}, {of(edge, -edge, edge), of(edge, -edge, edge), up}, // none
		{of(0, 0, 0), of(5, 0, 0), of(straight, 0, 0)}, {of(0, 0, 0), of(-1, 0, 0), of(-straight, 0, 0)}, {of(1, 2, 3), of(1, 9, 3), of(0, straight, 0)}, {of(1, 9, 3), of(1, 2, 3), of(0, -straight, 0)},
		{of(0, 0, -10), of(0, 0, -6), up}, {of(0, 0, -10), of(0, 0, -14), of(0, 0, -straight)}, {of(0, 0, 5), of(0, 0, 1), of(0, 0, -straight)},
		{of(0, 0, 0), of(3, -4, 0), of(9830, -13107, 0)}, {of(10, 20, 30), of(7, 20, 34), of(-9830, 0, 13107)}, {of(-1, -1, -1), of(0, 0, 0), of(9459, 9459, 9459)}, {of(0, 0, 0), of(-1, -1, -1), of(-9459, -9459, -9459)},
		{of(-edge, 0, 0), of(edge, 0, 0), of(straight, 0, 0)}, {of(edge, edge, edge), of(-edge, -edge, -edge), of(-9459, -9459, -9459)}, {of(edge, edge, edge), of(edge, edge, edge-1), of(0, 0, -straight)},
		{of(edge, 4, 0), of(edge, 0, 3), of(0, -13107, 9830)},
	} {
		if got := ball.Normal(c.c, c.at); got != c.want {
			t.Errorf("from %v to %v it is %v, not %v", c.c, c.at, got, c.want)
		}
	}
}

// TestNormalWide: P12.2, it is the direction of the exact difference, and the opposite one the other way round.
func TestNormalWide(t *testing.T) {
	places := append(append(narrow(), scattered(30, edge)...), scattered(20, 5)...)
	for _, c := range places {
		for _, at := range places {
			want, ok := vec.Unit(minus(at, c))
			if !ok {
				want = of(0, 0, straight)
			}
			if got := ball.Normal(c, at); got != want {
				t.Errorf("from %v to %v it is %v, not %v", c, at, got, want)
			}
			if got := ball.Normal(at, c); ok && got != times(want, -1) {
				t.Errorf("from %v to %v it is %v, but to %v %v", c, at, want, c, got)
			}
		}
	}
}

// TestNormalStrays: P12.2, it goes along Z if one of both is no place, also where their difference is near.
func TestNormalStrays(t *testing.T) {
	up := of(0, 0, straight)
	for _, v := range strays() {
		for _, other := range append(append(narrow(), strays()...), of(edge-3, 7, 7), of(-edge, 7, -edge+1)) {
			if got, back := ball.Normal(v, other), ball.Normal(other, v); got != up || back != up {
				t.Errorf("from %v to %v it is %v, the other way round %v", v, other, got, back)
			}
		}
	}
}

// TestInside: P12.2, by cases: the center, points exactly as far away as the radius, and the ones next to them.
func TestInside(t *testing.T) {
	for _, c := range []struct {
		c    api.Vec
		r    int
		at   api.Vec
		want bool
	}{
		{of(0, 0, 0), 4, of(0, 0, 0), true}, {of(0, 0, 0), 4, of(4, 0, 0), true}, {of(0, 0, 0), 4, of(0, -4, 0), true}, {of(0, 0, 0), 4, of(0, 0, 5), false}, {of(0, 0, 0), 4, of(-5, 0, 0), false},
		{of(0, 0, 0), 4, of(4, 1, 0), false}, {of(0, 0, 0), 4, of(4, 0, -1), false}, {of(0, 0, 0), 4, of(2, 2, 2), true}, {of(0, 0, 0), 4, of(2, 2, 3), false}, {of(0, 0, 0), 4, of(3, 3, 0), false}, {of(0, 0, 0), 4, of(3, 2, -1), true},
		{of(9, -9, 9), 5, of(12, -13, 9), true}, {of(9, -9, 9), 5, of(12, -13, 10), false}, {of(9, -9, 9), 5, of(13, -13, 9), false}, {of(9, -9, 9), 5, of(0, 0, 0), false}, {of(9, -9, 9), 5, of(5, -6, 9), true},
		{of(0, 0, 0), 9, of(4, -4, 7), true}, {of(0, 0, 0), 9, of(4, -4, 8), false}, {of(0, 0, 0), 9, of(4, 5, 7), false},
		{of(0, 0, 0), thick, of(thick, 0, 0), true}, {of(0, 0, 0), thick, of(thick+1, 0, 0), false}, {of(0, 0, 0), thick, of(thick, 1, 0), false}, {of(0, 0, 0), thick, of(0, -1, -thick), false}, {of(0, 0, 0), thick, of(thick-1, 700, 0), true}, {of(0, 0, 0), thick, of(thick-1, 725, 0), false}, {of(0, 0, 0), thick, of(thick-1, 724, 0), true},
		{of(edge, edge, edge), thick, of(edge-thick, edge, edge), true}, {of(edge, edge, edge), thick, of(edge-thick-1, edge, edge), false}, {of(edge, edge, edge), thick, of(-edge, -edge, -edge), false}, {of(-edge, 0, 0), thick, of(edge, 0, 0), false},
	} {
		if got := ball.Inside(c.c, c.r, c.at); got != c.want {
			t.Errorf("in the ball around %v of the radius %d is %v: %t", c.c, c.r, c.at, got)
		}
	}
}

// TestInsideExact: P12.2, against exact numbers: points exactly as far away as the radius, those about them, and others.
func TestInsideExact(t *testing.T) {
	ins, outs := 0, 0
	for way, length := range ways() {
		for _, n := range []int{4, 5, 100, thick / length} {
			s := sphere{of(7, 8, -9), n * length}
			if s.r > thick {
				continue
			}
			on := plus(s.c, times(way, n))
			if !ball.Inside(s.c, s.r, on) {
				t.Errorf("%v, on its surface, is not in %v", on, s)
			}
			for _, step := range grid(-1, 0, 1) {
				at := plus(on, step)
				away := minus(at, s.c)
				want := dot(away, away).Cmp(square(s.r)) <= 0
				if got := ball.Inside(s.c, s.r, at); got != want {
					t.Errorf("in %v is %v: %t", s, at, got)
				}
				if want {
					ins++
				} else {
					outs++
				}
			}
		}
	}
	for _, s := range balls() {
		for _, at := range append(append(narrow(), scattered(60, edge)...), scattered(60, 9)...) {
			away := minus(at, s.c)
			if got, want := ball.Inside(s.c, s.r, at), dot(away, away).Cmp(square(s.r)) <= 0; got != want {
				t.Errorf("in %v is %v: %t", s, at, got)
			}
		}
	}
	if ins < 1000 || outs < 1000 {
		t.Errorf("there are %d inside and %d outside", ins, outs)
	}
}

// TestInsideStrays: P12.2, nothing is in what is no ball, and what is no place is in none.
func TestInsideStrays(t *testing.T) {
	for _, s := range broken() {
		for _, at := range append(narrow(), s.c, plus(s.c, of(1, 0, 0)), plus(s.c, of(-1, 1, 0))) {
			if ball.Inside(s.c, s.r, at) {
				t.Errorf("in %v is %v", s, at)
			}
		}
	}
	for _, s := range balls() {
		for _, at := range strays() {
			if ball.Inside(s.c, s.r, at) {
				t.Errorf("in %v is %v", s, at)
			}
		}
	}
	for _, at := range []api.Vec{of(edge+1, 0, 0), of(0, -edge-1, 0), of(0, 0, edge+1), of(edge+1, edge, edge)} {
		c := held(at, edge)
		if ball.Inside(c, thick, at) || !ball.Inside(c, thick, c) {
			t.Errorf("around %v, %v is inside, or the center is not", c, at)
		}
	}
}
