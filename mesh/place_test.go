package mesh_test

import (
	"testing"

	"skylight/api"
	"skylight/pose"
	"skylight/trig"
)

// extreme is moves, all of them along one axis: after the last one all corners are places, after the first one further along some are none, after all no corner is a place.
type extreme struct{ last, first, all api.Vec }

// along is the vector that goes n along the axis.
func along(axis, n int) api.Vec {
	var at [3]int
	at[axis] = n
	return of(at[0], at[1], at[2])
}

// extremes holds those of a shape with a pose that does not move it: to either side, along each axis.
func extremes(s shape, p pose.Pose) []extreme {
	p.Move = api.Vec{}
	var all []extreme
	for axis := range 3 {
		low, high := most, least
		for _, corner := range s.corners() {
			n := list(put(p, corner))[axis]
			low, high = min(low, n), max(high, n)
		}
		all = append(all,
			extreme{along(axis, edge-high), along(axis, edge+1-high), along(axis, edge+1-low)},
			extreme{along(axis, -edge-low), along(axis, -edge-1-low), along(axis, -edge-1-high)})
	}
	return all
}

// standing holds poses that turn, size and slant, and do not move, after which no triangle of any mesh is flat.
func standing() []pose.Pose {
	return []pose.Pose{
		pose.None(), pose.Turned(0, 5000), pose.Turned(1, -9000), pose.Turned(2, 16384), pose.Sized(3, 2), pose.Sized(64, 1),
		pose.Then(pose.Turned(0, 7000), pose.Turned(2, 30000)),
		{X: of(unit, unit, unit), Y: of(0, unit, 0), Z: of(0, 0, unit)},
		{X: of(near, 0, 0), Y: of(0, -near, 0), Z: of(near, near, near)},
	}
}

// TestLastPlace: P19.1, corners on the last place, on the first that is none, and all of them beyond, to either side along each axis.
func TestLastPlace(t *testing.T) {
	some := 0
	for _, s := range shapes() {
		for _, p := range standing() {
			for _, at := range extremes(s, p) {
				p.Move = at.last
				if code := s.check(t, p, 0); code != api.OK {
					t.Errorf("%s with %v on the last place is told as %d", s.name, p, code)
				}
				p.Move = at.first
				if count := s.beyond(p); count < len(s.corners()) {
					some++
				}
				s.refused(t, p, 0, api.ErrRange)
				p.Move = at.all
				if count := s.beyond(p); count != len(s.corners()) {
					t.Errorf("%s with %v has %d corners beyond, which are not all", s.name, p, count)
				}
				s.refused(t, p, 0, api.ErrRange)
			}
		}
	}
	if some < 1000 {
		t.Errorf("only %d times some of the corners are beyond", some)
	}
}

// TestLastPlaceWritten: P19.1, the same, written out for the identity.
func TestLastPlaceWritten(t *testing.T) {
	for _, c := range []struct {
		s    shape
		move api.Vec
		want api.Errno
	}{
		{cube(), of(edge-64, 0, 0), api.OK}, {cube(), of(edge-63, 0, 0), api.ErrRange}, {cube(), of(edge+64, 0, 0), api.ErrRange}, {cube(), of(edge+65, 0, 0), api.ErrRange},
		{cube(), of(0, 64-edge, 0), api.OK}, {cube(), of(0, 63-edge, 0), api.ErrRange}, {cube(), of(0, -edge-65, 0), api.ErrRange},
		{cube(), of(edge-64, 64-edge, edge-64), api.OK}, {cube(), of(edge-64, 64-edge, edge-63), api.ErrRange},
		{grid(2), of(0, 0, edge), api.OK}, {grid(2), of(0, 0, edge+1), api.ErrRange}, {grid(2), of(0, 0, -edge), api.OK}, {grid(2), of(0, 0, -edge-1), api.ErrRange},
		{grid(1), of(edge-64, 64-edge, edge), api.OK}, {grid(1), of(63-edge, 0, 0), api.ErrRange}, {grid(1), of(0, edge-63, 0), api.ErrRange},
		{cone(3), of(edge-64, 0, 0), api.OK}, {cone(3), of(edge-63, 0, 0), api.ErrRange}, {cone(3), of(32-edge, 0, 0), api.OK}, {cone(3), of(31-edge, 0, 0), api.ErrRange},
		{cone(3), of(0, edge-55, 0), api.OK}, {cone(3), of(0, edge-54, 0), api.ErrRange}, {cone(3), of(0, 56-edge, 0), api.OK}, {cone(3), of(0, 55-edge, 0), api.ErrRange},
		{cone(3), of(0, 0, edge-128), api.OK}, {cone(3), of(0, 0, edge-127), api.ErrRange}, {cone(3), of(0, 0, -edge), api.OK}, {cone(3), of(0, 0, -edge-1), api.ErrRange}, {cone(3), of(0, 0, edge+1), api.ErrRange},
	} {
		p := pose.None()
		p.Move = c.move
		if code := c.s.check(t, p, 0); code != c.want {
			t.Errorf("%s at %v is told as %d, want %d", c.s.name, c.move, code, c.want)
		}
	}
}

// toward holds rows that go along some corners of s, each farthest along one of them.
func toward(s shape) []api.Vec {
	all := []api.Vec{of(0, 0, unit)}
	for _, x := range []int{-unit, unit} {
		for _, y := range []int{-unit, unit} {
			all = append(all, of(x, y, unit), of(x, y, -unit))
		}
	}
	for _, step := range trig.Steps(len(s.triangles) / 2) {
		all = append(all, of(16*step[0], 16*step[1], 0))
	}
	return all
}

// TestCornerAlone: P19.1, a single corner of a mesh that is no place is enough, whichever it is: each of a cube, the outermost of a grid, the top and those around the foot of a cone.
func TestCornerAlone(t *testing.T) {
	for _, s := range shapes() {
		alone := map[api.Vec]bool{}
		for _, row := range toward(s) {
			for axis := range 3 {
				p := pose.None()
				*[]*api.Vec{&p.X, &p.Y, &p.Z}[axis] = row
				for _, at := range extremes(s, p)[2*axis : 2*axis+2] {
					p.Move = at.first
					if s.beyond(p) == 1 {
						for _, corner := range s.corners() {
							alone[corner] = alone[corner] || !isPlace(put(p, corner))
						}
					}
					s.refused(t, p, 0, api.ErrRange)
				}
			}
		}
		count := 0
		for _, beyond := range alone {
			if beyond {
				count++
			}
		}
		if count != s.outermost {
			t.Errorf("of %s, %d corners were beyond alone, want %d", s.name, count, s.outermost)
		}
	}
}
