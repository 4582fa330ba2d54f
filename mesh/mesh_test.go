package mesh_test

import (
	"fmt"
	"math"
	"math/big"
	"slices"
	"testing"

	"skylight/api"
	"skylight/mesh"
	"skylight/pose"
	"skylight/trig"
)

const (
	least = math.MinInt
	most  = math.MaxInt
	edge  = 1 << 19 // as far as places go
	near  = 1 << 20 // as far as near coordinates go
	unit  = 16384   // what the identity has in its rows
	m     = 64      // as far as meshes go along X and Y
)

// of is the vector with these coordinates.
func of(x, y, z int) api.Vec { return api.Vec{X: x, Y: y, Z: z} }

// list holds the coordinates of v.
func list(v api.Vec) [3]int { return [3]int{v.X, v.Y, v.Z} }

// down is n / d, rounded down.
func down(n, d int) int {
	return int(new(big.Int).Div(big.NewInt(int64(n)), big.NewInt(int64(d))).Int64())
}

// triangle is three corners.
type triangle [3]api.Vec

// shape is a mesh: how it is built, its triangles without a pose, by the definition, how many of its corners do not lie between others, and whether it is a grid.
type shape struct {
	name      string
	build     func(p pose.Pose, mat int) ([]api.Prim, api.Errno)
	triangles []triangle
	outermost int
	isGrid    bool
}

// face holds the triangles of a face.
func face(a, b, c, d api.Vec) []triangle { return []triangle{{a, b, c}, {a, c, d}} }

// cube is the cube, whose triangles are written out.
func cube() shape {
	return shape{"a cube", mesh.Cube, []triangle{
		{of(-m, -m, -m), of(-m, m, -m), of(m, m, -m)}, {of(-m, -m, -m), of(m, m, -m), of(m, -m, -m)},
		{of(-m, -m, m), of(m, -m, m), of(m, m, m)}, {of(-m, -m, m), of(m, m, m), of(-m, m, m)},
		{of(-m, -m, -m), of(m, -m, -m), of(m, -m, m)}, {of(-m, -m, -m), of(m, -m, m), of(-m, -m, m)},
		{of(-m, m, -m), of(-m, m, m), of(m, m, m)}, {of(-m, m, -m), of(m, m, m), of(m, m, -m)},
		{of(-m, -m, -m), of(-m, -m, m), of(-m, m, m)}, {of(-m, -m, -m), of(-m, m, m), of(-m, m, -m)},
		{of(m, -m, -m), of(m, m, -m), of(m, m, m)}, {of(m, -m, -m), of(m, m, m), of(m, -m, m)},
	}, 8, false}
}

// lines holds the coordinates of a grid's corners along either axis, written out: 128 parted in n, rounded down.
func lines(n int) []int {
	return [][]int{
		1: {-64, 64},
		2: {-64, 0, 64},
		3: {-64, -22, 21, 64},
		4: {-64, -32, 0, 32, 64},
		5: {-64, -39, -13, 12, 38, 64},
		6: {-64, -43, -22, 0, 21, 42, 64},
		7: {-64, -46, -28, -10, 9, 27, 45, 64},
		8: {-64, -48, -32, -16, 0, 16, 32, 48, 64},
	}[n]
}

// grid is the grid of n.
func grid(n int) shape {
	at := lines(n)
	corner := func(i, k int) api.Vec { return of(at[i], at[k], 0) }
	var all []triangle
	for k := range n {
		for i := range n {
			all = append(all, face(corner(i, k), corner(i+1, k), corner(i+1, k+1), corner(i, k+1))...)
		}
	}
	build := func(p pose.Pose, mat int) ([]api.Prim, api.Errno) { return mesh.Grid(n, p, mat) }
	return shape{fmt.Sprintf("a grid of %d", n), build, all, 4, true}
}

// ring holds the corners of a cone around its foot.
func ring(n int) []api.Vec {
	var all []api.Vec
	for _, step := range trig.Steps(n) {
		all = append(all, of(down(step[0]*m, unit), down(step[1]*m, unit), 0))
	}
	return all
}

// cone is the cone of n.
func cone(n int) shape {
	around := ring(n)
	var all []triangle
	for i, corner := range around {
		next := around[0]
		if i < n-1 {
			next = around[i+1]
		}
		all = append(all, triangle{corner, next, of(0, 0, 128)}, triangle{next, corner, of(0, 0, 0)})
	}
	build := func(p pose.Pose, mat int) ([]api.Prim, api.Errno) { return mesh.Cone(n, p, mat) }
	return shape{fmt.Sprintf("a cone of %d", n), build, all, n + 1, false}
}

// shapes holds the cube, and the grids and the cones of every number.
func shapes() []shape {
	all := []shape{cube()}
	for n := 1; n <= 8; n++ {
		all = append(all, grid(n))
	}
	for n := 3; n <= 32; n++ {
		all = append(all, cone(n))
	}
	return all
}

// corners holds each corner of a shape once.
func (s shape) corners() []api.Vec {
	var all []api.Vec
	for _, t := range s.triangles {
		for _, corner := range t {
			if !slices.Contains(all, corner) {
				all = append(all, corner)
			}
		}
	}
	return all
}

// rows holds what makes the coordinates of a pose.
func rows(p pose.Pose) [3]api.Vec { return [3]api.Vec{p.X, p.Y, p.Z} }

// put is p applied to v, of a valid pose and the corner of a mesh.
func put(p pose.Pose, v api.Vec) api.Vec {
	var at [3]int
	for axis, row := range rows(p) {
		at[axis] = down(row.X*v.X+row.Y*v.Y+row.Z*v.Z, unit) + list(p.Move)[axis]
	}
	return of(at[0], at[1], at[2])
}

// isPlace tells whether v is a place.
func isPlace(v api.Vec) bool {
	for _, n := range list(v) {
		if n < -edge || n > edge {
			return false
		}
	}
	return true
}

// flat tells whether the corners, which are places, lie in a line.
func (t triangle) flat() bool {
	a, b, c := list(t[0]), list(t[1]), list(t[2])
	for i := range 3 {
		k := (i + 1) % 3
		if (b[i]-a[i])*(c[k]-a[k]) != (b[k]-a[k])*(c[i]-a[i]) {
			return false
		}
	}
	return true
}

// moved holds the triangles of s after a valid pose.
func (s shape) moved(p pose.Pose) []triangle {
	var all []triangle
	for _, t := range s.triangles {
		all = append(all, triangle{put(p, t[0]), put(p, t[1]), put(p, t[2])})
	}
	return all
}

// beyond is how many of the corners of s are no places after a valid pose.
func (s shape) beyond(p pose.Pose) int {
	count := 0
	for _, corner := range s.corners() {
		if !isPlace(put(p, corner)) {
			count++
		}
	}
	return count
}

// flats holds which triangles of s are flat after a pose that puts its corners on places.
func (s shape) flats(p pose.Pose) []int {
	var all []int
	for i, t := range s.moved(p) {
		if t.flat() {
			all = append(all, i)
		}
	}
	return all
}

// things holds triangles as things.
func things(mat int, all ...triangle) []api.Prim {
	var l []api.Prim
	for _, t := range all {
		l = append(l, api.Prim{Kind: 1, A: t[0], B: t[1], C: t[2], Mat: mat})
	}
	return l
}

// want is what s must be with a valid pose and a material that there may be.
func (s shape) want(p pose.Pose, mat int) ([]api.Prim, api.Errno) {
	switch {
	case s.beyond(p) > 0:
		return nil, api.ErrRange
	case len(s.flats(p)) > 0:
		return nil, api.ErrFlat
	}
	return things(mat, s.moved(p)...), api.OK
}

// check fails if s is another mesh than it must be, with a valid pose; it tells the error.
func (s shape) check(t *testing.T, p pose.Pose, mat int) api.Errno {
	t.Helper()
	l, code := s.want(p, mat)
	if got, errno := s.build(p, mat); errno != code || !slices.Equal(got, l) {
		t.Errorf("%s with %v of %d: %d, %v, want %d, %v", s.name, p, mat, errno, got, code, l)
	}
	return code
}

// refused fails if s is anything but an error, and that one.
func (s shape) refused(t *testing.T, p pose.Pose, mat int, code api.Errno) {
	t.Helper()
	if got, errno := s.build(p, mat); errno != code || len(got) > 0 {
		t.Errorf("%s with %v of %d: %d, %v, want %d and nothing", s.name, p, mat, errno, got, code)
	}
}

// TestExample: P19.1, the chapter's example.
func TestExample(t *testing.T) {
	l, code := mesh.Cube(pose.None(), 2)
	if code != api.OK || len(l) != 12 {
		t.Fatalf("a cube is %d, %v", code, l)
	}
	if want := (api.Prim{Kind: api.Tri, A: of(-64, -64, -64), B: of(-64, 64, -64), C: of(64, 64, -64), Mat: 2}); l[0] != want {
		t.Errorf("the first triangle of a cube is %v, want %v", l[0], want)
	}
}

// TestCube: P19.1, the twelve triangles of a cube.
func TestCube(t *testing.T) {
	if code := cube().check(t, pose.None(), 5); code != api.OK {
		t.Errorf("a cube is told as %d", code)
	}
}

// TestCubeFaces: P19.1, the triangles of a cube, by the numbers of its corners.
func TestCubeFaces(t *testing.T) {
	l, _ := mesh.Cube(pose.None(), 0)
	corner := func(number int) api.Vec {
		return of(number&1*128-64, number>>1&1*128-64, number>>2&1*128-64)
	}
	var all []triangle
	for _, f := range [][4]int{{0, 2, 3, 1}, {4, 5, 7, 6}, {0, 1, 5, 4}, {2, 6, 7, 3}, {0, 4, 6, 2}, {1, 3, 7, 5}} {
		all = append(all, face(corner(f[0]), corner(f[1]), corner(f[2]), corner(f[3]))...)
	}
	if want := things(0, all...); !slices.Equal(l, want) {
		t.Errorf("a cube is %v, want %v", l, want)
	}
}

// TestGrid: P19.1, the triangles of grids, written out.
func TestGrid(t *testing.T) {
	l, code := mesh.Grid(1, pose.None(), 3)
	want := things(3, triangle{of(-64, -64, 0), of(64, -64, 0), of(64, 64, 0)}, triangle{of(-64, -64, 0), of(64, 64, 0), of(-64, 64, 0)})
	if code != api.OK || !slices.Equal(l, want) {
		t.Errorf("a grid of 1 is %d, %v, want %v", code, l, want)
	}
	l, code = mesh.Grid(2, pose.None(), 0)
	want = things(0,
		triangle{of(-64, -64, 0), of(0, -64, 0), of(0, 0, 0)}, triangle{of(-64, -64, 0), of(0, 0, 0), of(-64, 0, 0)},
		triangle{of(0, -64, 0), of(64, -64, 0), of(64, 0, 0)}, triangle{of(0, -64, 0), of(64, 0, 0), of(0, 0, 0)},
		triangle{of(-64, 0, 0), of(0, 0, 0), of(0, 64, 0)}, triangle{of(-64, 0, 0), of(0, 64, 0), of(-64, 64, 0)},
		triangle{of(0, 0, 0), of(64, 0, 0), of(64, 64, 0)}, triangle{of(0, 0, 0), of(64, 64, 0), of(0, 64, 0)},
	)
	if code != api.OK || !slices.Equal(l, want) {
		t.Errorf("a grid of 2 is %d, %v, want %v", code, l, want)
	}
	l, code = mesh.Grid(3, pose.None(), 63)
	if code != api.OK || len(l) != 18 {
		t.Fatalf("a grid of 3 is %d, %v", code, l)
	}
	for place, want := range map[int]triangle{
		0:  {of(-64, -64, 0), of(-22, -64, 0), of(-22, -22, 0)},
		3:  {of(-22, -64, 0), of(21, -22, 0), of(-22, -22, 0)},
		8:  {of(-22, -22, 0), of(21, -22, 0), of(21, 21, 0)},
		17: {of(21, 21, 0), of(64, 64, 0), of(21, 64, 0)},
	} {
		if l[place] != things(63, want)[0] {
			t.Errorf("triangle %d of a grid of 3 is %v, want %v", place, l[place], want)
		}
	}
}

// TestCone: P19.1, the triangles of cones, written out.
func TestCone(t *testing.T) {
	top, foot := of(0, 0, 128), of(0, 0, 0)
	l, code := mesh.Cone(3, pose.None(), 1)
	a, b, c := of(64, 0, 0), of(-32, 55, 0), of(-32, -56, 0)
	want := things(1, triangle{a, b, top}, triangle{b, a, foot}, triangle{b, c, top}, triangle{c, b, foot}, triangle{c, a, top}, triangle{a, c, foot})
	if code != api.OK || !slices.Equal(l, want) {
		t.Errorf("a cone of 3 is %d, %v, want %v", code, l, want)
	}
	l, code = mesh.Cone(4, pose.None(), 0)
	a, b, c, d := of(64, 0, 0), of(0, 64, 0), of(-64, 0, 0), of(0, -64, 0)
	want = things(0, triangle{a, b, top}, triangle{b, a, foot}, triangle{b, c, top}, triangle{c, b, foot}, triangle{c, d, top}, triangle{d, c, foot}, triangle{d, a, top}, triangle{a, d, foot})
	if code != api.OK || !slices.Equal(l, want) {
		t.Errorf("a cone of 4 is %d, %v, want %v", code, l, want)
	}
	l, code = mesh.Cone(8, pose.None(), 0)
	var round []api.Vec
	for place, p := range l {
		if place%2 == 0 {
			round = append(round, p.A)
		}
	}
	if want := []api.Vec{of(64, 0, 0), of(45, 45, 0), of(0, 64, 0), of(-46, 45, 0), of(-64, 0, 0), of(-46, -46, 0), of(0, -64, 0), of(45, -46, 0)}; code != api.OK || !slices.Equal(round, want) {
		t.Errorf("a cone of 8 is %d, %v, around %v, want %v", code, l, round, want)
	}
}

// TestEvery: P19.1, the cube, and every grid and cone, of every material.
func TestEvery(t *testing.T) {
	for _, s := range shapes() {
		for mat := range 64 {
			if code := s.check(t, pose.None(), mat); code != api.OK {
				t.Errorf("%s of %d is told as %d", s.name, mat, code)
			}
		}
	}
}

// TestRoundedDown: P19.1, coordinates after a pose are rounded down, also below 0, and so stay apart.
func TestRoundedDown(t *testing.T) {
	l, code := mesh.Grid(1, pose.Sized(1, 3), 0)
	want := things(0, triangle{of(-22, -22, 0), of(21, -22, 0), of(21, 21, 0)}, triangle{of(-22, -22, 0), of(21, 21, 0), of(-22, 21, 0)})
	if code != api.OK || !slices.Equal(l, want) {
		t.Errorf("a grid of 1, a third as great, is %d, %v, want %v", code, l, want)
	}
	l, code = mesh.Cone(3, pose.Sized(1, 3), 0)
	top, foot, a, b, c := of(0, 0, 42), of(0, 0, 0), of(21, 0, 0), of(-11, 18, 0), of(-11, -19, 0)
	want = things(0, triangle{a, b, top}, triangle{b, a, foot}, triangle{b, c, top}, triangle{c, b, foot}, triangle{c, a, top}, triangle{a, c, foot})
	if code != api.OK || !slices.Equal(l, want) {
		t.Errorf("a cone of 3, a third as great, is %d, %v, want %v", code, l, want)
	}
	tiny := pose.Pose{X: of(1, 0, 0), Y: of(0, -1, 0), Z: of(0, 0, 1), Move: of(5, 0, -5)}
	l, code = mesh.Cube(tiny, 0)
	if want := things(0, triangle{of(4, 0, -6), of(4, -1, -6), of(5, -1, -6)})[0]; code != api.OK || len(l) != 12 || l[0] != want {
		t.Errorf("the tiniest cube is %d, %v, want first %v", code, l, want)
	}
	for _, s := range shapes() {
		for _, p := range []pose.Pose{pose.Sized(1, 3), pose.Sized(2, 3), pose.Sized(1, 7), pose.Sized(5, 64), pose.Turned(0, 3333), pose.Turned(1, 40000), pose.Turned(2, -77), tiny} {
			s.check(t, p, 7)
		}
	}
}

// TestOwn: rule 0.5, what a caller does with a mesh changes neither the next one nor another triangle.
func TestOwn(t *testing.T) {
	for _, s := range shapes() {
		l, _ := s.build(pose.None(), 1)
		kept := slices.Clone(l)
		next, _ := s.build(pose.None(), 1)
		for i := range l {
			l[i] = api.Prim{}
		}
		_ = append(l[:1], api.Prim{Mat: 9})
		if !slices.Equal(next, kept) {
			t.Errorf("%s changes with another one", s.name)
		}
		s.check(t, pose.None(), 1)
	}
}
