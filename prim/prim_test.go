package prim_test

import (
	"math"
	"math/rand/v2"
	"testing"

	"skylight/api"
	"skylight/ball"
	"skylight/box"
	"skylight/prim"
	"skylight/tri"
)

const (
	least    = math.MinInt
	most     = math.MaxInt
	edge     = 1 << 19 // as far as places go
	near     = 1 << 20 // as far as near coordinates go
	thin     = 4       // the least radius
	thick    = 1 << 18 // the greatest radius
	straight = 16384   // the length of a direction
	one      = 65536   // all of a side
)

// of is the vector with these coordinates.
func of(x, y, z int) api.Vec { return api.Vec{X: x, Y: y, Z: z} }

// list holds the coordinates of v.
func list(v api.Vec) [3]int { return [3]int{v.X, v.Y, v.Z} }

// plus is a + b.
func plus(a, b api.Vec) api.Vec { return of(a.X+b.X, a.Y+b.Y, a.Z+b.Z) }

// minus is a - b.
func minus(a, b api.Vec) api.Vec { return of(a.X-b.X, a.Y-b.Y, a.Z-b.Z) }

// times is v n times.
func times(v api.Vec, n int) api.Vec { return of(v.X*n, v.Y*n, v.Z*n) }

// held is v with each coordinate held from -bound to bound.
func held(v api.Vec, bound int) api.Vec {
	hold := func(n int) int { return max(min(n, bound), -bound) }
	return of(hold(v.X), hold(v.Y), hold(v.Z))
}

// triangle is the thing with these corners.
func triangle(a, b, c api.Vec) api.Prim { return api.Prim{Kind: 1, A: a, B: b, C: c} }

// round is the ball around c of the radius r.
func round(c api.Vec, r int) api.Prim { return api.Prim{Kind: 2, A: c, R: r} }

// grid holds every vector that has its coordinates out of numbers.
func grid(numbers ...int) []api.Vec {
	var all []api.Vec
	for _, x := range numbers {
		for _, y := range numbers {
			for _, z := range numbers {
				all = append(all, of(x, y, z))
			}
		}
	}
	return all
}

// scattered holds vectors without a pattern, with coordinates from -bound to bound.
func scattered(count, bound int) []api.Vec {
	random := rand.New(rand.NewPCG(13, uint64(bound)))
	below := func() int { return random.IntN(2*bound+1) - bound }
	var all []api.Vec
	for range count {
		all = append(all, of(below(), below(), below()))
	}
	return all
}

// strays holds vectors that are no places, each along one axis at least.
func strays() []api.Vec {
	all := []api.Vec{of(edge+1, edge+1, edge+1), of(least, least, least), of(most, most, most), of(most, least, 0)}
	for _, n := range []int{edge + 1, -edge - 1, near, -near, near + 1, -near - 1, 1 << 32, -1 << 32, 1 << 62, -1 << 62, most, least + 1, least} {
		all = append(all, of(n, 0, 0), of(0, n, 0), of(0, 0, n), of(n, 5, edge), of(-edge, n, 5), of(5, edge, n))
	}
	return all
}

// triangles holds things of that kind: of every size, those at the edges of places, and those that are flat along an axis among them.
func triangles() []api.Prim {
	all := []api.Prim{
		triangle(of(0, 0, 0), of(4, 0, 0), of(0, 4, 0)), triangle(of(0, 0, 0), of(0, 4, 0), of(4, 0, 0)), triangle(of(1, 2, 3), of(1, -4, 8), of(1, 9, -9)), triangle(of(5, 5, 6), of(6, 5, 5), of(5, 5, 5)),
		triangle(of(1, 0, 0), of(0, 1, 0), of(0, 0, 1)), triangle(of(-1, -2, -3), of(-4, -5, -6), of(-7, -8, -10)), triangle(of(9, -9, 9), of(-9, 9, 9), of(9, 9, -9)),
		triangle(of(edge, edge, edge), of(-edge, -edge, edge), of(edge, -edge, -edge)), triangle(of(-edge, -edge, -edge), of(edge, -edge, -edge), of(-edge, edge, -edge)), triangle(of(edge, edge, edge), of(edge-1, edge, edge), of(edge, edge, edge-1)),
		triangle(of(-edge, 0, 0), of(edge, 0, 0), of(0, 0, 1)), triangle(of(0, 0, edge), of(0, 1, -edge), of(0, 2, edge)),
	}
	for _, bound := range []int{9, 1000, edge} {
		corners := scattered(30, bound)
		for place := 2; place < len(corners); place += 3 {
			all = append(all, triangle(corners[place-2], corners[place-1], corners[place]))
		}
	}
	return all
}

// balls holds things of that kind: of every size, up to the edges of places.
func balls() []api.Prim {
	var all []api.Prim
	for _, r := range []int{thin, thin + 1, 6, 100, 4097, thick - 1, thick} {
		all = append(all, round(of(0, 0, 0), r), round(of(edge, -edge, edge), r), round(of(-edge, edge, -edge), r), round(of(-1, 2, edge), r), round(scattered(1, 9+r)[0], r))
		all = append(all, round(held(scattered(2, edge+r)[1], edge), r))
	}
	return all
}

// things holds what is valid, with materials from 0 to 63.
func things() []api.Prim {
	all := append(triangles(), balls()...)
	for place := range all {
		all[place].Mat = []int{0, 63, 1, 62, 32}[place%5]
	}
	return all
}

// changed is p after change.
func changed(p api.Prim, change func(p *api.Prim)) api.Prim {
	change(&p)
	return p
}

// misplaced holds what p is with a vector at A, at B and at C.
func misplaced(p api.Prim, v api.Vec) []api.Prim {
	return []api.Prim{
		changed(p, func(p *api.Prim) { p.A = v }),
		changed(p, func(p *api.Prim) { p.B = v }),
		changed(p, func(p *api.Prim) { p.C = v }),
	}
}

// flats holds triangles whose corners are places, but in a line, or the same.
func flats() []api.Prim {
	all := []api.Prim{
		triangle(of(0, 0, 0), of(0, 0, 0), of(0, 0, 0)), triangle(of(1, 2, 3), of(1, 2, 3), of(4, 5, 7)), triangle(of(4, 5, 7), of(1, 2, 3), of(1, 2, 3)), triangle(of(1, 2, 3), of(4, 5, 7), of(1, 2, 3)),
		triangle(of(0, 0, 0), of(1, 1, 1), of(2, 2, 2)), triangle(of(-3, 0, 3), of(3, 0, -3), of(0, 0, 0)), triangle(of(-edge, -edge, -edge), of(edge, edge, edge), of(0, 0, 0)),
	}
	for _, v := range scattered(20, edge/4) {
		all = append(all, triangle(v, times(v, 2), times(v, 4)), triangle(times(v, 3), times(v, -1), v))
	}
	return all
}

// broken holds what is not valid, each but for one thing: by its material, its kind, its corners, or by a field that its kind has no use for.
func broken() []api.Prim {
	all := append(flats(), api.Prim{}, api.Prim{Kind: 1}, api.Prim{Kind: 2}, api.Prim{R: 5}, api.Prim{Kind: 1, R: 5}, api.Prim{Kind: -2, R: 5}, api.Prim{Kind: 0, B: of(4, 0, 0), C: of(0, 4, 0)})
	numbers := []int{-1, -2, 64, 65, 127, 128, 256, -63, -64, 1 << 16, 1 << 32, 1<<32 + 1, -1 << 32, most, least, least + 1}
	for _, p := range things() {
		for _, n := range numbers {
			all = append(all, changed(p, func(p *api.Prim) { p.Mat = n }), changed(p, func(p *api.Prim) { p.Kind = n }))
		}
		for _, n := range []int{0, 3, 4, 3 - p.Kind, p.Kind + 1<<32, -p.Kind} {
			all = append(all, changed(p, func(p *api.Prim) { p.Kind = n }))
		}
	}
	for place, p := range triangles() {
		for _, n := range append(numbers, 1, -4, 4, 5, thick) {
			all = append(all, changed(p, func(p *api.Prim) { p.R = n }))
		}
		for step, v := range strays() {
			all = append(all, misplaced(p, v)[(place+step)%3])
		}
	}
	for place, p := range balls() {
		for _, n := range []int{3, 2, 1, 0, -1, -4, -5, -thick, thick + 1, 2 * thick, edge, near, 1 << 32, 1<<32 + 5, most, least, least + 5} {
			all = append(all, changed(p, func(p *api.Prim) { p.R = n }))
		}
		for _, n := range []int{1, -1, 5, edge, -edge - 1, 1 << 32, most, least} {
			for _, v := range []api.Vec{of(n, 0, 0), of(0, n, 0), of(0, 0, n), of(n, n, n)} {
				all = append(all, misplaced(p, v)[1:]...)
			}
		}
		all = append(all, changed(p, func(p *api.Prim) { p.B, p.C = of(1, 0, 0), of(-1, 0, 0) }))
		all = append(all, misplaced(p, strays()[place%len(strays())])[0])
	}
	for _, v := range strays() {
		all = append(all, round(v, thin), round(v, thick))
		all = append(all, misplaced(triangles()[0], v)...)
	}
	return all
}

// TestRight: P13.1, by cases: both kinds, and for each what makes it valid and the least that does not.
func TestRight(t *testing.T) {
	s, b := triangle(of(1, 2, 3), of(4, 5, 6), of(7, 8, 10)), round(of(1, -2, 3), 5)
	for _, c := range []struct {
		p    api.Prim
		want bool
	}{
		{s, true}, {b, true}, {api.Prim{}, false},
		{triangle(of(0, 0, 0), of(4, 0, 0), of(0, 4, 0)), true}, {triangle(of(4, 0, 0), of(0, 0, 0), of(0, 4, 0)), true}, {triangle(of(1, 2, 3), of(4, 5, 6), of(7, 8, 9)), false}, {triangle(of(1, 2, 3), of(4, 5, 6), of(4, 5, 6)), false},
		{triangle(of(edge, 0, 0), of(0, edge, 0), of(0, 0, -edge)), true}, {triangle(of(edge+1, 0, 0), of(0, edge, 0), of(0, 0, -edge)), false}, {triangle(of(edge, 0, 0), of(0, edge+1, 0), of(0, 0, -edge)), false}, {triangle(of(edge, 0, 0), of(0, edge, 0), of(0, 0, -edge-1)), false},
		{changed(s, func(p *api.Prim) { p.R = 1 }), false}, {changed(s, func(p *api.Prim) { p.R = -1 }), false}, {changed(s, func(p *api.Prim) { p.R = 5 }), false},
		{round(of(0, 0, 0), 3), false}, {round(of(0, 0, 0), 4), true}, {round(of(0, 0, 0), thick), true}, {round(of(0, 0, 0), thick+1), false}, {round(of(0, 0, 0), 0), false}, {round(of(0, 0, 0), -5), false},
		{round(of(edge, -edge, edge), thick), true}, {round(of(edge+1, 0, 0), 5), false}, {round(of(0, -edge-1, 0), 5), false}, {round(of(0, 0, edge+1), 5), false},
		{misplaced(b, of(1, 0, 0))[1], false}, {misplaced(b, of(0, -1, 0))[1], false}, {misplaced(b, of(0, 0, 1))[1], false}, {misplaced(b, of(-1, 0, 0))[2], false}, {misplaced(b, of(0, 1, 0))[2], false}, {misplaced(b, of(0, 0, 1))[2], false}, {misplaced(b, b.A)[1], false},
	} {
		if got := prim.Right(c.p); got != c.want {
			t.Errorf("%v is valid: %t", c.p, got)
		}
	}
}

// TestRightNumbers: P13.1, every material and every kind about what there is, for both kinds.
func TestRightNumbers(t *testing.T) {
	s, b := triangle(of(1, 2, 3), of(4, 5, 6), of(7, 8, 10)), round(of(1, -2, 3), 5)
	for n := -300; n <= 300; n++ {
		for _, p := range []api.Prim{s, b} {
			p.Mat = n
			if got, want := prim.Right(p), n >= 0 && n <= 63; got != want {
				t.Errorf("%v, with the material %d, is valid: %t", p, n, got)
			}
			p.Mat = 5
			p.Kind = n
			if got, want := prim.Right(p), p == changed(s, func(p *api.Prim) { p.Mat = 5 }) || p == changed(b, func(p *api.Prim) { p.Mat = 5 }); got != want {
				t.Errorf("%v, of the kind %d, is valid: %t", p, n, got)
			}
		}
		s, b := s, b
		s.R, b.R = n, n
		if got, want := prim.Right(s), n == 0; got != want {
			t.Errorf("%v is valid: %t", s, got)
		}
		if got, want := prim.Right(b), n >= 4; got != want {
			t.Errorf("%v is valid: %t", b, got)
		}
	}
}

// TestRightWide: P13.1, things of every size are valid, and what is not but for one thing is not.
func TestRightWide(t *testing.T) {
	for _, p := range things() {
		if !prim.Right(p) {
			t.Errorf("%v is not valid", p)
		}
	}
	for _, p := range broken() {
		if prim.Right(p) {
			t.Errorf("%v is valid", p)
		}
	}
}

// TestBroken: P13.1 and P13.2, all functions of what is not valid answer zero, whatever else they are given.
func TestBroken(t *testing.T) {
	points := append(strays(), of(0, 0, 0), of(1, 2, 3), of(edge, edge, -edge))
	parts := []int{0, 1, one / 2, one, -1, one + 1, most, least}
	for place, p := range broken() {
		if got := prim.Box(p); got != (box.Box{}) {
			t.Errorf("%v has the box %v", p, got)
		}
		if got := prim.Area(p); got != 0 {
			t.Errorf("%v has the area %d", p, got)
		}
		for _, at := range []api.Vec{points[place%len(points)], of(0, 0, 0), of(7, -8, 9), p.A} {
			if got := prim.Normal(p, at); got != (api.Vec{}) {
				t.Errorf("%v has at %v the normal %v", p, at, got)
			}
		}
		for step := range parts {
			u, v := parts[step], parts[(place+step)%len(parts)]
			if got := prim.Point(p, u, v); got != (api.Vec{}) {
				t.Errorf("%v has by %d, %d the point %v", p, u, v, got)
			}
		}
	}
}

// TestBox: P13.1, by cases: the chapter's ball, the least and the greatest ones, and triangles.
func TestBox(t *testing.T) {
	for _, c := range []struct {
		p      api.Prim
		lo, hi api.Vec
	}{
		{round(of(0, 0, 0), 5), of(-5, -5, -5), of(5, 5, 5)}, // the chapter's example
		{round(of(10, -20, 30), 4), of(6, -24, 26), of(14, -16, 34)}, {round(of(0, 1, -1), thick), of(-thick, 1-thick, -1-thick), of(thick, 1+thick, thick-1)},
		{round(of(edge, -edge, edge), thick), of(262144, -786432, 262144), of(786432, -262144, 786432)}, {round(of(-edge, edge, 0), thick), of(-786432, 262144, -262144), of(-262144, 786432, 262144)}, {round(of(edge, 0, -edge), 4), of(edge-4, -4, -edge-4), of(edge+4, 4, 4-edge)},
		{triangle(of(0, 0, 0), of(4, 0, 0), of(0, 5, 0)), of(0, 0, 0), of(4, 5, 0)}, {triangle(of(1, 20, -3), of(-1, 2, -30), of(10, -2, 3)), of(-1, -2, -30), of(10, 20, 3)}, {triangle(of(7, 8, 9), of(7, 7, 7), of(7, 9, 8)), of(7, 7, 7), of(7, 9, 9)}, {triangle(of(-1, -2, -3), of(-4, -5, -6), of(-7, -8, -10)), of(-7, -8, -10), of(-1, -2, -3)},
		{triangle(of(edge, -edge, 0), of(-edge, edge, 1), of(0, 0, edge)), of(-edge, -edge, 0), of(edge, edge, edge)},
	} {
		if got := prim.Box(c.p); got != (box.Box{Lo: c.lo, Hi: c.hi}) {
			t.Errorf("%v has the box %v, not from %v to %v", c.p, got, c.lo, c.hi)
		}
	}
}

// TestBoxWide: P13.1, the box is valid, and along each axis the least for its corners, whatever their order, or twice the radius wide around the center of a ball.
func TestBoxWide(t *testing.T) {
	for _, p := range things() {
		got := prim.Box(p)
		if !box.Right(got) {
			t.Errorf("%v has the box %v, which is not valid", p, got)
		}
		for axis := range 3 {
			a, b, c := list(p.A)[axis], list(p.B)[axis], list(p.C)[axis]
			low, high := min(a, b, c), max(a, b, c)
			if p.Kind == 2 {
				low, high = a-p.R, a+p.R
			}
			if list(got.Lo)[axis] != low || list(got.Hi)[axis] != high {
				t.Errorf("%v has the box %v, not from %d to %d along %d", p, got, low, high, axis)
			}
		}
		if p.Kind != 1 {
			continue
		}
		for _, order := range [][3]api.Vec{{p.A, p.C, p.B}, {p.B, p.A, p.C}, {p.B, p.C, p.A}, {p.C, p.A, p.B}, {p.C, p.B, p.A}} {
			if other := prim.Box(triangle(order[0], order[1], order[2])); other != got {
				t.Errorf("%v has the box %v, but with its corners in another order %v", p, got, other)
			}
		}
	}
}

// TestNormal: P13.2, by cases: of a triangle the same everywhere, of a ball away from its center, also at the center itself and at what is no place.
func TestNormal(t *testing.T) {
	flat, low, b := triangle(of(0, 0, 0), of(4, 0, 0), of(0, 4, 0)), triangle(of(0, 0, 0), of(0, 4, 0), of(4, 0, 0)), round(of(1, 2, 3), 5)
	up, down := of(0, 0, straight), of(0, 0, -straight)
	for _, c := range []struct {
		p        api.Prim
		at, want api.Vec
	}{
		{flat, of(1, 1, 0), up}, {flat, of(0, 0, 0), up}, {flat, of(9, 9, -9), up}, {flat, of(edge+1, 0, 0), up}, {flat, of(least, most, least), up}, {low, of(1, 1, 0), down}, {low, of(1, 1, 5), down}, {low, of(0, 0, most), down},
		{triangle(of(1, 0, 0), of(0, 1, 0), of(0, 0, 1)), of(0, 0, 0), of(9459, 9459, 9459)}, {triangle(of(9, 9, 9), of(9, 10, 9), of(9, 9, 10)), of(9, 9, 9), of(straight, 0, 0)},
		{b, of(6, 2, 3), of(straight, 0, 0)}, {b, of(1, -3, 3), of(0, -straight, 0)}, {b, of(1, 2, -2), down}, {b, of(4, -2, 3), of(9830, -13107, 0)}, {b, of(0, 2, 3), of(-straight, 0, 0)}, {b, of(0, 0, 0), of(-4378, -8757, -13136)}, {b, of(100, 2, 3), of(straight, 0, 0)},
		{b, of(1, 2, 3), up}, {b, of(edge+1, 2, 3), up}, {b, of(1, -edge-1, 3), up}, {b, of(1, 2, -edge-1), up}, {b, of(least, 2, 3), up}, {b, of(most, most, least), up}, {b, of(-edge, 2, 3), of(-straight, 0, 0)},
	} {
		if got := prim.Normal(c.p, c.at); got != c.want {
			t.Errorf("%v has at %v the normal %v, not %v", c.p, c.at, got, c.want)
		}
	}
}

// TestNormalWide: P13.2, things of every size, as the layers below have it.
func TestNormalWide(t *testing.T) {
	for _, p := range things() {
		for _, at := range append(append(strays(), scattered(20, edge)...), p.A, p.B, plus(p.A, of(0, p.R, 0)), plus(p.A, of(-1, 1, 2))) {
			want := ball.Normal(p.A, at)
			if p.Kind == 1 {
				want, _ = tri.Normal(p.A, p.B, p.C)
			}
			if got := prim.Normal(p, at); got != want || got == (api.Vec{}) {
				t.Errorf("%v has at %v the normal %v, not %v", p, at, got, want)
			}
		}
	}
}

// TestArea: P13.2, twice the area of a triangle, by cases and of every size, and none of a ball.
func TestArea(t *testing.T) {
	for _, c := range []struct {
		p    api.Prim
		want int
	}{
		{triangle(of(0, 0, 0), of(4, 0, 0), of(0, 4, 0)), 16}, {triangle(of(0, 4, 0), of(4, 0, 0), of(0, 0, 0)), 16}, {triangle(of(1, 0, 0), of(0, 1, 0), of(0, 0, 1)), 1}, {triangle(of(0, 0, 0), of(0, 1, 0), of(-4, 0, 3)), 5}, {triangle(of(-edge, -edge, 9), of(edge, -edge, 9), of(-edge, edge, 9)), 1 << 40},
		{round(of(0, 0, 0), 5), 0}, {round(of(1, 2, 3), 4), 0}, {round(of(edge, edge, edge), thick), 0},
	} {
		if got := prim.Area(c.p); got != c.want {
			t.Errorf("%v has the area %d, not %d", c.p, got, c.want)
		}
	}
	for _, p := range things() {
		if got, want := prim.Area(p), tri.Area(p.A, p.B, p.C); got != want || (p.Kind == 1) != (got > 0) {
			t.Errorf("%v has the area %d, not %d", p, got, want)
		}
	}
}

// TestPoint: P13.2, by cases: corners, middles and what lies beyond of a triangle, by parts that may not be, and the center of a ball by any.
func TestPoint(t *testing.T) {
	s, b := triangle(of(10, 20, 30), of(14, 20, 30), of(10, 24, 30)), round(of(-1, 2, 3), 5)
	for _, c := range []struct {
		p    api.Prim
		u, v int
		want api.Vec
	}{
		{s, 0, 0, of(10, 20, 30)}, {s, one, 0, of(14, 20, 30)}, {s, 0, one, of(10, 24, 30)}, {s, one / 4, one / 2, of(11, 22, 30)}, {s, one, one, of(10, 20, 30)}, {s, one, one / 2, of(10, 22, 30)}, {s, 3 * one / 4, 3 * one / 4, of(11, 21, 30)},
		{s, -1, 0, api.Vec{}}, {s, 0, -1, api.Vec{}}, {s, one + 1, 0, api.Vec{}}, {s, 0, one + 1, api.Vec{}}, {s, most, least, api.Vec{}}, {s, least, 0, api.Vec{}}, {s, -5, one, api.Vec{}},
		{b, 0, 0, b.A}, {b, one, 0, b.A}, {b, one / 3, one / 5, b.A}, {b, one, one, b.A}, {b, -1, 0, b.A}, {b, 0, -1, b.A}, {b, one + 1, 0, b.A}, {b, 5, one + 1, b.A}, {b, most, least, b.A}, {b, least, most, b.A},
	} {
		if got := prim.Point(c.p, c.u, c.v); got != c.want {
			t.Errorf("%v has by %d, %d the point %v, not %v", c.p, c.u, c.v, got, c.want)
		}
	}
}

// TestPointWide: P13.2, things of every size, as tri.At has it, or the center of a ball, by any parts.
func TestPointWide(t *testing.T) {
	parts := []int{0, 1, 21845, one / 2, 43691, one - 1, one, -1, one + 1, 2 * one, -one, 1 << 32, most, least}
	for _, p := range things() {
		for _, u := range parts {
			for _, v := range parts {
				want := p.A
				if p.Kind == 1 {
					want = tri.At(p.A, p.B, p.C, u, v)
				}
				if got := prim.Point(p, u, v); got != want {
					t.Errorf("%v has by %d, %d the point %v, not %v", p, u, v, got, want)
				}
			}
		}
	}
}
