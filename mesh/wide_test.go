package mesh_test

import (
	"math/rand/v2"
	"testing"

	"skylight/api"
	"skylight/mesh"
	"skylight/pose"
	"skylight/prim"
)

// maker makes poses without a pattern.
type maker struct{ random *rand.Rand }

// made makes them by a number.
func made(number uint64) maker { return maker{rand.New(rand.NewPCG(19, number))} }

// below is a number from -bound to bound.
func (m maker) below(bound int) int { return m.random.IntN(2*bound+1) - bound }

// vector is one with coordinates from -bound to bound.
func (m maker) vector(bound int) api.Vec { return of(m.below(bound), m.below(bound), m.below(bound)) }

// steps is a pose of some turns, sizes and moves, one after the other.
func (m maker) steps() pose.Pose {
	p := pose.None()
	for range m.random.IntN(5) {
		next := pose.Turned(m.random.IntN(3), m.below(70000))
		switch m.random.IntN(3) {
		case 0:
			next = pose.Sized(1+m.random.IntN(4), 1+m.random.IntN(4))
		case 1:
			next = pose.Moved(m.vector(1 << m.random.IntN(18)))
		}
		p = pose.Then(p, next)
	}
	return p
}

// pose is a valid one: of some steps, or of any rows; its move brings corners about the last place now and then.
func (m maker) pose() pose.Pose {
	p := m.steps()
	if m.random.IntN(3) > 0 {
		bound := []int{1, 60, 300, 2000, unit, near}[m.random.IntN(6)]
		p = pose.Pose{X: m.vector(bound), Y: m.vector(bound), Z: m.vector(bound), Move: m.vector(1 << m.random.IntN(21))}
	}
	if m.random.IntN(3) == 0 {
		p.Move = along(m.random.IntN(3), []int{edge, -edge, edge - 128, 100 - edge, near}[m.random.IntN(5)])
	}
	return p
}

// TestWide: P19.1 and P19.3, every mesh with poses of every kind, against the definition.
func TestWide(t *testing.T) {
	counts := map[api.Errno]int{}
	for number, s := range shapes() {
		m := made(uint64(number))
		for range 400 {
			p, mat := m.pose(), m.random.IntN(64)
			if !pose.Right(p) {
				continue
			}
			code := s.check(t, p, mat)
			counts[code]++
			if code == api.OK {
				l, _ := s.build(p, mat)
				allRight(t, s, l)
			}
		}
	}
	if counts[api.OK] < 4000 || counts[api.ErrRange] < 2000 || counts[api.ErrFlat] < 2000 {
		t.Errorf("too few of a kind: %v", counts)
	}
}

// allRight fails if one of the triangles of s is not valid, or there are not as many as there must be.
func allRight(t *testing.T, s shape, l []api.Prim) {
	t.Helper()
	if len(l) != len(s.triangles) {
		t.Errorf("%s has %d triangles, want %d", s.name, len(l), len(s.triangles))
	}
	for _, p := range l {
		if !prim.Right(p) {
			t.Errorf("%s has %v, which is not valid", s.name, p)
		}
	}
}

// TestCounts: P19.3, a mesh has 12, twice n squared, or twice n triangles, all of which are valid.
func TestCounts(t *testing.T) {
	numbered := func(count int, l []api.Prim, code api.Errno) {
		t.Helper()
		if code != api.OK || len(l) != count {
			t.Errorf("a mesh is %d, of %d triangles, want %d", code, len(l), count)
		}
		for _, p := range l {
			if !prim.Right(p) || p.Kind != api.Tri {
				t.Errorf("%v is no triangle that is valid", p)
			}
		}
	}
	for _, p := range standing() {
		l, code := mesh.Cube(p, 0)
		numbered(12, l, code)
		for n := 1; n <= 8; n++ {
			l, code := mesh.Grid(n, p, 63)
			numbered(2*n*n, l, code)
		}
		for n := 3; n <= 32; n++ {
			l, code := mesh.Cone(n, p, 1)
			numbered(2*n, l, code)
		}
	}
}

// different tells whether all corners of s remain different after a valid pose.
func (s shape) different(p pose.Pose) bool {
	seen := map[api.Vec]bool{}
	for _, corner := range s.corners() {
		if seen[put(p, corner)] {
			return false
		}
		seen[put(p, corner)] = true
	}
	return true
}

// TestClosedMeshes: P19.3, cubes and cones are closed, whatever the pose is; grids whose corners remain different are not.
func TestClosedMeshes(t *testing.T) {
	yes, no := 0, 0
	for number, s := range shapes() {
		m := made(uint64(1000 + number))
		poses := standing()
		for range 200 {
			poses = append(poses, m.pose())
		}
		for _, p := range poses {
			l, code := s.build(p, 0)
			if code != api.OK {
				continue
			}
			switch {
			case !s.isGrid:
				closed(t, l, true)
				yes++
			case s.different(p):
				closed(t, l, false)
				no++
			}
		}
	}
	if yes < 1000 || no < 300 {
		t.Errorf("only %d cubes and cones, and %d grids were tried", yes, no)
	}
}

// TestClosedGrid: P19.3, corners of a grid that come to lie on the same place may close it.
func TestClosedGrid(t *testing.T) {
	p := pose.Pose{X: of(64, 64, 0), Y: of(128, 128, 0)}
	l, code := mesh.Grid(1, p, 0)
	want := things(0, triangle{of(-1, -1, 0), of(0, 0, 0), of(0, 1, 0)}, triangle{of(-1, -1, 0), of(0, 1, 0), of(0, 0, 0)})
	if code != api.OK || l[0] != want[0] || l[1] != want[1] {
		t.Fatalf("a grid of 1 with %v is %d, %v, want %v", p, code, l, want)
	}
	closed(t, l, true)
}

// TestStrange: rule 0.1, every call ends, whatever its arguments are.
func TestStrange(t *testing.T) {
	strange := []int{least, least + 1, -1 << 32, -near - 1, -1, 0, 1, 3, 8, 32, 63, 64, near, near + 1, 1 << 32, most - 1, most}
	m := made(7)
	one := func() int { return strange[m.random.IntN(len(strange))] }
	vector := func() api.Vec { return of(one(), one(), one()) }
	for range 20000 {
		p := pose.Pose{X: vector(), Y: vector(), Z: vector(), Move: vector()}
		if m.random.IntN(2) == 0 {
			p = m.pose()
		}
		n, mat := one(), one()
		var l []api.Prim
		for _, build := range []func() ([]api.Prim, api.Errno){
			func() ([]api.Prim, api.Errno) { return mesh.Cube(p, mat) },
			func() ([]api.Prim, api.Errno) { return mesh.Grid(n, p, mat) },
			func() ([]api.Prim, api.Errno) { return mesh.Cone(n, p, mat) },
		} {
			some, code := build()
			if code != api.OK && len(some) > 0 {
				t.Errorf("a mesh with %v is %d, and has triangles", p, code)
			}
			l = append(l, some...)
		}
		l = append(l, api.Prim{Kind: one() & 3, A: vector(), B: vector(), C: vector(), R: one(), Mat: one()})
		if got := mesh.Closed(l); got != definedClosed(l) {
			t.Errorf("Closed is %t: %s", got, shown(l))
		}
	}
}
