package scene_test

import (
	"fmt"
	"math"
	"reflect"
	"slices"
	"testing"

	"skylight/api"
	"skylight/scene"
)

const (
	least  = math.MinInt
	most   = math.MaxInt
	edge   = 1 << 19 // as far as places go
	near   = 1 << 20 // as far as near coordinates go
	thin   = 4       // the least radius
	thick  = 1 << 18 // the greatest radius
	full   = 65536   // all of a color's channel
	bright = 1 << 24 // the greatest channel of a power
)

// of is the vector with these coordinates.
func of(x, y, z int) api.Vec { return api.Vec{X: x, Y: y, Z: z} }

// rgb holds these channels.
func rgb(r, g, b int) api.RGB { return api.RGB{R: r, G: g, B: b} }

// triangle is the thing with these corners.
func triangle(mat int, a, b, c api.Vec) api.Prim {
	return api.Prim{Kind: 1, A: a, B: b, C: c, Mat: mat}
}

// round is the ball around c of the radius r.
func round(mat int, c api.Vec, r int) api.Prim {
	return api.Prim{Kind: 2, A: c, R: r, Mat: mat}
}

// sample is a valid scene with things of each kind: four materials, four things and three lights.
func sample() api.Scene {
	return api.Scene{
		Mats: []api.Mat{
			{Kind: 1, Color: rgb(1, 2, 3)},
			{Kind: 2, Color: rgb(60000, 50000, 40000)},
			{Kind: 3, Color: rgb(7, full, 8), Extra: 24576},
			{Kind: 4, Color: rgb(0, 10, 20), Extra: 8},
		},
		Prims: []api.Prim{
			triangle(0, of(0, 0, 0), of(4, 0, 0), of(0, 4, 0)),
			round(3, of(1, -2, 3), 5),
			triangle(2, of(1, 2, 3), of(4, 5, 6), of(7, 8, 10)),
			round(1, of(-100, 0, 200), 60),
		},
		Lights: []api.Light{
			{Kind: 1, At: of(5, 6, 7), Power: rgb(100, 0, 0)},
			{Kind: 2, At: of(5, 6, 7), To: of(5, 6, 8), Cos: 9000, Power: rgb(1, 2, 3)},
			{Kind: 3, Prim: 2, Power: rgb(0, 0, 900)},
		},
		Camera: api.Camera{Eye: of(0, 0, -90), To: of(0, 0, 10), Up: of(0, 1, 0), W: 20, H: 30, Zoom: 100, Lens: 7, Focus: 90},
		Setup:  api.Setup{Seed: 1 << 63, Count: 1000, Depth: 5, Batch: 10, Room: 100, Stripes: 4, Crew: 3, Tries: 9},
	}
}

// changed is the sample after change.
func changed(change func(s *api.Scene)) api.Scene {
	s := sample()
	change(&s)
	return s
}

// copied is s with lists of its own.
func copied(s api.Scene) api.Scene {
	s.Mats, s.Prims, s.Lights = slices.Clone(s.Mats), slices.Clone(s.Prims), slices.Clone(s.Lights)
	return s
}

// fault is what is wrong with an item of a part.
func fault(code api.Errno, part, item int) scene.Fault {
	return scene.Fault{Err: code, Part: part, Item: item}
}

// told is s, or the beginning of it if it has many items.
func told(s api.Scene) string { return fmt.Sprintf("%.1500s", fmt.Sprint(s)) }

// check fails if s has another fault than that one, is valid in spite of it, has any light or pixels then, or is changed.
func check(t *testing.T, s api.Scene, want scene.Fault) {
	t.Helper()
	before, valid := copied(s), want == scene.Fault{}
	if got := scene.Check(s); got != want {
		t.Errorf("the fault is %v, want %v, of %s", got, want, told(s))
	}
	if scene.Right(s) != valid {
		t.Errorf("valid is %t, want %t, of %s", !valid, valid, told(s))
	}
	light, pixels := scene.Bright(s), scene.Pixels(s)
	if !valid && (light != 0 || pixels != 0) {
		t.Errorf("a scene that is not valid has the light %d and %d pixels: %s", light, pixels, told(s))
	}
	if !reflect.DeepEqual(s, before) {
		t.Errorf("%s has become %s", told(before), told(s))
	}
}

// valid fails if s has a fault.
func valid(t *testing.T, s api.Scene) {
	t.Helper()
	check(t, s, scene.Fault{})
}

// each calls do for each of the numbers.
func each(do func(n int), numbers ...int) {
	for _, n := range numbers {
		do(n)
	}
}

// ranged fails unless the sample, with a number set, is valid for low and high and what is between, and has that fault beyond them.
func ranged(t *testing.T, low, high int, want scene.Fault, set func(s *api.Scene, n int)) {
	t.Helper()
	with := func(n int) api.Scene { return changed(func(s *api.Scene) { set(s, n) }) }
	each(func(n int) { valid(t, with(n)) }, low, low+1, (low+high)/2, high-1, high)
	each(func(n int) { check(t, with(n), want) }, low-1, high+1, low-1000, -high-1, high*2+2, 1<<32+low, least, least+low, most)
}

// around holds places that are the last ones, each along one axis at least.
func around() []api.Vec {
	return []api.Vec{of(edge, 0, 0), of(-edge, 0, 0), of(0, edge, 0), of(0, -edge, 0), of(0, 0, edge), of(0, 0, -edge), of(edge, -edge, edge), of(-edge, edge, -edge)}
}

// beyond holds vectors that are no places, each along one axis.
func beyond() []api.Vec {
	var all []api.Vec
	each(func(n int) { all = append(all, of(n, 5, -edge), of(edge, n, 5), of(5, edge, n)) }, edge+1, -edge-1, near, -near, 1<<32, most, least)
	return all
}

// TestExample: P20.1, the chapter's example, also with lists that have room but nothing in it.
func TestExample(t *testing.T) {
	check(t, api.Scene{}, fault(api.ErrLack, 1, 0))
	s := sample()
	check(t, api.Scene{Mats: s.Mats[:0], Prims: s.Prims[:0], Lights: s.Lights[:0]}, fault(api.ErrLack, 1, 0))
}

// TestSample: P20.1, valid scenes: the sample, without things, and the least one.
func TestSample(t *testing.T) {
	valid(t, sample())
	plain := changed(func(s *api.Scene) { s.Prims, s.Lights = nil, s.Lights[:2] })
	valid(t, plain)
	valid(t, api.Scene{
		Mats:   []api.Mat{{Kind: 2}},
		Lights: []api.Light{{Kind: 1, Power: rgb(0, 1, 0)}},
		Camera: api.Camera{To: of(1, 0, 0), Up: of(0, 0, -1), W: 1, H: 1, Zoom: 1},
		Setup:  api.Setup{Depth: 1, Batch: 1, Room: 1, Stripes: 1, Crew: 1, Tries: 1},
	})
}

// TestMats: P20.1, the first part: how many materials there are, and which one is at fault.
func TestMats(t *testing.T) {
	list := func(n int) []api.Mat { return slices.Repeat(sample().Mats[:1], n) }
	with := func(l []api.Mat) api.Scene {
		return changed(func(s *api.Scene) { s.Mats, s.Prims, s.Lights = l, nil, s.Lights[:1] })
	}
	check(t, with(nil), fault(api.ErrLack, 1, 0))
	check(t, with(list(65)[:0]), fault(api.ErrLack, 1, 0))
	each(func(n int) { valid(t, with(list(n))) }, 1, 2, 63, 64)
	each(func(n int) { check(t, with(list(n)), fault(api.ErrMany, 1, 0)) }, 65, 66, 128, 1000)
	each(func(n int) {
		l := list(64)
		l[n].Kind = 0
		check(t, with(l), fault(api.ErrRange, 1, n))
		l[63].Extra = 1
		check(t, with(l), fault(api.ErrRange, 1, n))
		check(t, with(l[:n+1]), fault(api.ErrRange, 1, n))
		if n > 0 {
			valid(t, with(l[:n]))
		}
	}, 0, 1, 31, 62, 63)
}

// TestColor: P20.1, of each kind: colors that are colors only just, and that are none.
func TestColor(t *testing.T) {
	for item := range sample().Mats {
		for _, channel := range []func(c *api.RGB) *int{
			func(c *api.RGB) *int { return &c.R },
			func(c *api.RGB) *int { return &c.G },
			func(c *api.RGB) *int { return &c.B },
		} {
			ranged(t, 0, full, fault(api.ErrRange, 1, item), func(s *api.Scene, n int) { *channel(&s.Mats[item].Color) = n })
		}
		valid(t, changed(func(s *api.Scene) { s.Mats[item].Color = rgb(full, full, full) }))
		valid(t, changed(func(s *api.Scene) { s.Mats[item].Color = rgb(0, 0, 0) }))
	}
}

// TestExtra: P20.1, of each kind, and of kinds that are none: what Extra may be.
func TestExtra(t *testing.T) {
	with := func(item, kind, extra int) api.Scene {
		return changed(func(s *api.Scene) { s.Mats[item].Kind, s.Mats[item].Extra = kind, extra })
	}
	numbers := []int{0, 1, -1, 2, 8, 63, 64, 65, 66, 16382, 16383, 16384, 16385, 24576, 65535, 65536, 65537, 1 << 17, 1 << 32, 1<<32 + 1, 1<<32 + 16384, -64, -16384, -65536, most, least, least + 1}
	for item := range sample().Mats {
		for _, n := range numbers {
			for kind, fits := range map[int]bool{1: n == 0, 2: n == 0, 3: n >= 16384 && n <= 65536, 4: n >= 1 && n <= 64} {
				want := fault(api.ErrRange, 1, item)
				if fits {
					want = scene.Fault{}
				}
				check(t, with(item, kind, n), want)
			}
			each(func(kind int) { check(t, with(item, kind, n), fault(api.ErrRange, 1, item)) }, 0, 5, 6, -1, -2, -3, -4, 257, 1<<32+1, 1<<32+3, most, least)
		}
	}
}

// TestCamera: P20.1, the fourth part: each number, and the vectors.
func TestCamera(t *testing.T) {
	wrong := fault(api.ErrRange, 4, 0)
	ranged(t, 1, 256, wrong, func(s *api.Scene, n int) { s.Camera.W = n })
	ranged(t, 1, 256, wrong, func(s *api.Scene, n int) { s.Camera.H = n })
	ranged(t, 1, 1<<16, wrong, func(s *api.Scene, n int) { s.Camera.Zoom = n })
	ranged(t, 1, 1<<12, wrong, func(s *api.Scene, n int) { s.Camera.Lens = n })
	ranged(t, 1, 1<<19, wrong, func(s *api.Scene, n int) { s.Camera.Focus = n })
	with := func(lens, focus int) api.Scene {
		return changed(func(s *api.Scene) { s.Camera.Lens, s.Camera.Focus = lens, focus })
	}
	valid(t, with(0, 0))
	each(func(n int) { check(t, with(0, n), wrong) }, 1, 2, 90, 1<<19, 1<<19+1, -1, most, least)
	each(func(n int) { check(t, with(n, 0), wrong) }, 1, 7, 1<<12, 1<<12+1, -1, most, least)
}

// looking is the sample with a camera that has these vectors.
func looking(eye, to, up api.Vec) api.Scene {
	return changed(func(s *api.Scene) { s.Camera.Eye, s.Camera.To, s.Camera.Up = eye, to, up })
}

// TestLooks: P20.1, the fourth part: from where a camera looks to where, and what is up.
func TestLooks(t *testing.T) {
	wrong := fault(api.ErrRange, 4, 0)
	up := of(1, 2, 4)
	for _, v := range around() {
		valid(t, looking(v, of(1, 1, 1), up))
		valid(t, looking(of(1, 1, 1), v, up))
		check(t, looking(v, v, up), wrong)
		check(t, looking(v, v, v), wrong)
	}
	for _, v := range beyond() {
		check(t, looking(v, of(1, 1, 1), up), wrong)
		check(t, looking(of(1, 1, 1), v, up), wrong)
		check(t, looking(v, v, up), wrong)
	}
	valid(t, looking(of(edge, edge, edge), of(-edge, -edge, -edge), up))
	valid(t, looking(of(7, 8, 9), of(7, 8, 10), up))
	check(t, looking(of(7, 8, 9), of(7, 8, 9), up), wrong)
	forward := of(3, 5, 7)
	each(func(n int) {
		valid(t, looking(of(0, 0, 0), forward, of(n, 1, 1)))
		valid(t, looking(of(0, 0, 0), forward, of(1, n, 1)))
		valid(t, looking(of(0, 0, 0), forward, of(1, 1, n)))
	}, near, -near, near-1, edge+1)
	each(func(n int) {
		check(t, looking(of(0, 0, 0), forward, of(n, 1, 1)), wrong)
		check(t, looking(of(0, 0, 0), forward, of(1, n, 1)), wrong)
		check(t, looking(of(0, 0, 0), forward, of(1, 1, n)), wrong)
		check(t, looking(of(0, 0, 0), of(1, 0, 0), of(n, 0, 0)), wrong)
	}, near+1, -near-1, 1<<21, 1<<32, most, least)
}

// TestUpright: P20.1, the fourth part: what is up lies along the way that the camera looks, or only just does not.
func TestUpright(t *testing.T) {
	flat := fault(api.ErrFlat, 4, 0)
	for _, v := range []api.Vec{of(1, 0, 0), of(0, -1, 0), of(0, 0, 5), of(3, 5, 7), of(-400, 1, 9), of(edge, -edge, edge)} {
		eye, to := of(0, 0, 0), v
		if v.X < edge {
			eye, to = of(10, 20, -30), of(10+v.X, 20+v.Y, -30+v.Z)
		}
		each(func(n int) { check(t, looking(eye, to, of(v.X*n, v.Y*n, v.Z*n)), flat) }, 1, -1, 2, -2, 0)
		each(func(n int) {
			valid(t, looking(eye, to, of(v.X*n+1, v.Y*n, v.Z*n+1)))
			valid(t, looking(eye, to, of(v.X*n, v.Y*n-1, v.Z*n+1)))
		}, 1, -1, 0)
	}
	check(t, looking(of(edge, edge, edge), of(-edge, -edge, -edge), of(near, near, near)), flat)
	valid(t, looking(of(edge, edge, edge), of(-edge, -edge, -edge), of(near, near, near-1)))
	check(t, looking(of(-edge, 0, edge), of(edge, 0, -edge), of(-near, 0, near)), flat)
	valid(t, looking(of(-edge, 0, edge), of(edge, 0, -edge), of(-near, 1, near)))
	check(t, looking(of(1, 2, 3), of(3, 6, 9), of(1, 2, 3)), flat) // along the way, not from 0 to the place
	valid(t, looking(of(0, 0, -90), of(0, 10, 10), of(0, 10, 10)))
	valid(t, looking(of(0, 0, 100), of(1, 0, 100), of(0, 0, 1)))
	check(t, looking(of(0, 0, 100), of(1, 0, 100), of(-9, 0, 0)), flat)
}

// TestSetup: P20.1, the fifth part: each number.
func TestSetup(t *testing.T) {
	wrong := fault(api.ErrRange, 5, 0)
	ranged(t, 0, 1<<20, wrong, func(s *api.Scene, n int) { s.Setup.Count = n })
	ranged(t, 1, 16, wrong, func(s *api.Scene, n int) { s.Setup.Depth = n })
	ranged(t, 1, 1<<16, wrong, func(s *api.Scene, n int) { s.Setup.Batch = n })
	ranged(t, 1, 4096, wrong, func(s *api.Scene, n int) { s.Setup.Room = n })
	ranged(t, 1, 256, wrong, func(s *api.Scene, n int) { s.Setup.Stripes = n })
	ranged(t, 1, 64, wrong, func(s *api.Scene, n int) { s.Setup.Crew = n })
	ranged(t, 1, 1000, wrong, func(s *api.Scene, n int) { s.Setup.Tries = n })
	for _, seed := range []uint64{0, 1, 1<<63 - 1, 1 << 63, 1<<64 - 1} {
		valid(t, changed(func(s *api.Scene) { s.Setup.Seed = seed }))
	}
	check(t, changed(func(s *api.Scene) { s.Setup = api.Setup{} }), wrong)
	valid(t, changed(func(s *api.Scene) { s.Setup.Count, s.Setup.Depth = 1<<20, 16 })) // the budget is another matter
}
