package mesh_test

import (
	"math/rand/v2"
	"testing"

	"skylight/api"
	"skylight/pose"
)

// leveled is the identity without the rows of these axes.
func leveled(axes ...int) pose.Pose {
	p := pose.None()
	for _, axis := range axes {
		*[]*api.Vec{&p.X, &p.Y, &p.Z}[axis] = api.Vec{}
	}
	return p
}

// scaled is the pose with these numbers across its rows.
func scaled(x, y, z int) pose.Pose {
	return pose.Pose{X: of(x, 0, 0), Y: of(0, y, 0), Z: of(0, 0, z)}
}

// TestFlat: P19.1, all triangles of a mesh, some, or none that become flat by the pose.
func TestFlat(t *testing.T) {
	for _, c := range []struct {
		s     shape
		p     pose.Pose
		flats int
	}{
		{cube(), pose.Pose{}, 12}, {grid(3), pose.Pose{}, 18}, {cone(5), pose.Pose{}, 10},
		{cube(), leveled(0), 8}, {cube(), leveled(1), 8}, {cube(), leveled(2), 8}, {cube(), leveled(0, 1), 12}, {cube(), leveled(1, 2), 12},
		{grid(1), leveled(0), 2}, {grid(1), leveled(1), 2}, {grid(8), leveled(0), 128}, {grid(8), leveled(1), 128}, {grid(8), leveled(2), 0},
		// On its side, a cone has the foot's triangles in a line; from above, all of them are to be seen.
		{cone(3), leveled(0), 3}, {cone(3), leveled(1), 3 + 1}, {cone(8), leveled(0), 8}, {cone(8), leveled(1), 8}, {cone(8), leveled(2), 0}, {cone(32), leveled(2), 0},
		// Sized down, corners are rounded to the same place.
		{cube(), scaled(1, 1, 1), 0}, {cube(), scaled(-1, 1, -1), 0}, {cube(), scaled(1, 1, 0), 8},
		{grid(1), scaled(1, 1, 0), 0}, {grid(2), scaled(1, 1, 1), 6}, {grid(2), scaled(256, 256, 256), 0}, {grid(2), scaled(255, 256, 256), 4}, {grid(2), scaled(-255, 256, 256), 4},
		{grid(8), scaled(1024, 1024, 0), 0}, {grid(8), scaled(1024, 1023, 0), 16}, {cone(4), scaled(256, 256, 128), 0}, {cone(4), scaled(256, 256, 127), 0}, {cone(4), scaled(255, 256, 128), 2},
	} {
		if flats := c.s.flats(c.p); len(flats) != c.flats {
			t.Errorf("%s with %v has the flat triangles %v, want %d", c.s.name, c.p, flats, c.flats)
		}
		want := api.ErrFlat
		if c.flats == 0 {
			want = api.OK
		}
		for _, move := range []api.Vec{of(0, 0, 0), of(-5, 0, 7), of(edge-64, 64-edge, edge-128)} {
			c.p.Move = move
			if code := c.s.check(t, c.p, 0); code != want {
				t.Errorf("%s with %v is told as %d, want %d", c.s.name, c.p, code, want)
			}
		}
	}
}

// TestFlatAlone: P19.1, a single triangle that is flat is enough, whichever it is.
func TestFlatAlone(t *testing.T) {
	for _, s := range []shape{cube(), grid(1), grid(2), grid(3), cone(3), cone(4), cone(5), cone(8)} {
		random := rand.New(rand.NewPCG(19, uint64(len(s.triangles))))
		alone := map[int]bool{}
		for range 100000 {
			bound := 150 + random.IntN(700)
			below := func() int { return random.IntN(2*bound+1) - bound }
			v := func() api.Vec { return of(below(), below(), below()) }
			p := pose.Pose{X: v(), Y: v(), Z: v()}
			if flats := s.flats(p); len(flats) == 1 && !alone[flats[0]] {
				alone[flats[0]] = true
				s.refused(t, p, 0, api.ErrFlat)
			}
			if len(alone) == len(s.triangles) {
				break
			}
		}
		if len(alone) != len(s.triangles) {
			t.Errorf("of %s, only %d triangles were flat alone", s.name, len(alone))
		}
	}
}
