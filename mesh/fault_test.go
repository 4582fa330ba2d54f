package mesh_test

import (
	"slices"
	"testing"

	"skylight/api"
	"skylight/mesh"
	"skylight/pose"
)

// numbers holds some that are neither those of a grid nor those of a cone, but for the low bits of some.
func numbers() []int {
	return []int{0, -1, -2, -3, -8, -32, 33, 34, 64, 1024, 1025, 65536 + 4, 1<<32 + 3, 1<<32 + 8, 1<<62 + 5, -1<<32 + 6, most, most - 1, least, least + 4}
}

// mats holds some that no material may have, but for the low bits of some.
func mats() []int {
	return []int{-1, 64, 65, 127, 128, -2, -63, -64, 256, 65536, 1<<32 + 1, -1<<32 + 1, most, least, least + 1}
}

// with is the identity with a number instead of one of its twelve: nine of the rows, row by row, and three of the move.
func with(place, n int) pose.Pose {
	p := pose.None()
	row := []*api.Vec{&p.X, &p.Y, &p.Z, &p.Move}[place/3]
	*[]*int{&row.X, &row.Y, &row.Z}[place%3] = n
	return p
}

// broken holds poses that are not valid: one of the numbers is not near, or all.
func broken() []pose.Pose {
	far := of(near+1, near+1, near+1)
	all := []pose.Pose{{X: far, Y: far, Z: far, Move: far}}
	for place := range 12 {
		for _, n := range []int{near + 1, -near - 1, 1 << 32, most, least} {
			all = append(all, with(place, n))
		}
	}
	return all
}

// TestNumber: P19.1, a grid has a number from 1 to 8, and a cone one from 3 to 32.
func TestNumber(t *testing.T) {
	for n := -100; n <= 100; n++ {
		want := api.ErrArg
		if n >= 1 && n <= 8 {
			want = api.OK
		}
		if l, code := mesh.Grid(n, pose.None(), 0); code != want || want == api.ErrArg && len(l) > 0 {
			t.Errorf("a grid of %d is %d, %v, want %d", n, code, l, want)
		}
		want = api.ErrArg
		if n >= 3 && n <= 32 {
			want = api.OK
		}
		if l, code := mesh.Cone(n, pose.None(), 0); code != want || want == api.ErrArg && len(l) > 0 {
			t.Errorf("a cone of %d is %d, %v, want %d", n, code, l, want)
		}
	}
	for _, n := range append(numbers(), 9, 16, 32) {
		if l, code := mesh.Grid(n, pose.None(), 0); code != api.ErrArg || len(l) > 0 {
			t.Errorf("a grid of %d is %d, %v", n, code, l)
		}
	}
	for _, n := range append(numbers(), 1, 2) {
		if l, code := mesh.Cone(n, pose.None(), 0); code != api.ErrArg || len(l) > 0 {
			t.Errorf("a cone of %d is %d, %v", n, code, l)
		}
	}
}

// TestMat: P19.1, materials are from 0 to 63.
func TestMat(t *testing.T) {
	for _, s := range shapes() {
		for _, mat := range mats() {
			s.refused(t, pose.None(), mat, api.ErrArg)
		}
		for _, mat := range []int{0, 1, 62, 63} {
			if code := s.check(t, pose.None(), mat); code != api.OK {
				t.Errorf("%s of %d is told as %d", s.name, mat, code)
			}
		}
	}
}

// TestPose: P19.1, poses that are not valid, and those that are only just.
func TestPose(t *testing.T) {
	for _, s := range shapes() {
		for _, p := range broken() {
			s.refused(t, p, 0, api.ErrArg)
		}
		counts := map[api.Errno]int{}
		for place := range 12 {
			for _, n := range []int{near, -near, near - 1} {
				counts[s.check(t, with(place, n), 0)]++
			}
		}
		// Each of the move puts all corners beyond, and none of the rows puts any there.
		if counts[api.ErrRange] != 9 || counts[api.OK] == 0 || counts[api.ErrArg] != 0 {
			t.Errorf("%s with poses that are valid only just: %v", s.name, counts)
		}
	}
	far := of(near, -near, near)
	whole := pose.Pose{X: far, Y: of(-near, near, near), Z: of(near, near, near)}
	for _, s := range shapes() {
		s.check(t, whole, 0)
		s.refused(t, pose.Pose{X: whole.X, Y: whole.Y, Z: whole.Z, Move: far}, 0, api.ErrRange)
	}
	if code := cube().check(t, whole, 0); code != api.OK {
		t.Errorf("a cube with the greatest rows is told as %d", code)
	}
}

// placeless holds poses that put corners of every mesh beyond the places: all of them, and some.
func placeless() []pose.Pose {
	return []pose.Pose{with(9, edge+200), with(10, -edge-200), with(11, edge+1), with(11, near), with(9, edge), with(10, -edge)}
}

// leveling holds poses after which all triangles of every mesh are flat, or some.
func leveling() []pose.Pose {
	x, y := pose.None(), pose.None()
	x.X, y.Y = api.Vec{}, api.Vec{}
	return []pose.Pose{{}, {Move: of(1, 2, 3)}, {X: of(unit, unit, unit)}, x, y}
}

// TestTwoFaults: P19.1, of two faults at once, or three, the one that the promise names first.
func TestTwoFaults(t *testing.T) {
	bad := func(n int) []shape {
		return []shape{
			{name: "a grid", build: func(p pose.Pose, mat int) ([]api.Prim, api.Errno) { return mesh.Grid(n, p, mat) }},
			{name: "a cone", build: func(p pose.Pose, mat int) ([]api.Prim, api.Errno) { return mesh.Cone(n, p, mat) }},
		}
	}
	valid := slices.Concat([]pose.Pose{pose.None()}, placeless(), leveling())
	for _, n := range numbers() {
		for _, s := range bad(n) {
			for _, p := range slices.Concat(valid, broken()[:5]) {
				s.refused(t, p, 0, api.ErrArg)
				s.refused(t, p, -1, api.ErrArg)
				s.refused(t, p, 64, api.ErrArg)
			}
		}
	}
	for _, s := range shapes() {
		for _, p := range slices.Concat(placeless(), leveling(), broken()) {
			s.refused(t, p, -1, api.ErrArg)
			s.refused(t, p, 64, api.ErrArg)
		}
		for _, p := range placeless() {
			s.refused(t, p, 0, api.ErrRange)
		}
		for _, p := range leveling() {
			s.refused(t, p, 0, api.ErrFlat)
			// Not valid, and flat.
			p.Move = of(near+1, 0, 0)
			s.refused(t, p, 0, api.ErrArg)
			// Flat, and beyond.
			p.Move = of(-edge-200, 0, edge+200)
			s.refused(t, p, 0, api.ErrRange)
		}
	}
}

// TestRangeBeforeFlat: P19.1, a corner that is no place is told ahead of a flat triangle, whichever of the triangles has it.
func TestRangeBeforeFlat(t *testing.T) {
	ahead, behind := 0, 0
	for _, s := range shapes() {
		for _, p := range leveling() {
			for _, at := range extremes(s, p) {
				p.Move = at.first
				flat, far := -1, -1
				for i, corners := range s.moved(p) {
					beyond := slices.ContainsFunc(corners[:], func(v api.Vec) bool { return !isPlace(v) })
					if far < 0 && beyond {
						far = i
					}
					if flat < 0 && corners.flat() {
						flat = i
					}
				}
				if far < flat {
					behind++
				}
				if flat < far {
					ahead++
				}
				s.refused(t, p, 0, api.ErrRange)
				p.Move = at.last
				s.refused(t, p, 0, api.ErrFlat)
			}
		}
	}
	if ahead < 50 || behind < 50 {
		t.Errorf("a flat triangle is ahead of a corner beyond %d times, and behind it %d times", ahead, behind)
	}
}
