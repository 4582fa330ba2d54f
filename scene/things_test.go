package scene_test

import (
	"slices"
	"testing"

	"skylight/api"
	"skylight/scene"
)

// having is the sample with other things, and without the light that is one of them.
func having(l ...api.Prim) api.Scene {
	return changed(func(s *api.Scene) { s.Prims, s.Lights = l, s.Lights[:2] })
}

// rows holds as many triangles and balls, in turns.
func rows(n int) []api.Prim {
	l := slices.Repeat(sample().Prims[:2], (n+1)/2)
	return l[:n]
}

// alone fails unless p is at fault with that error wherever it stands, or valid if that is OK.
func alone(t *testing.T, code api.Errno, p api.Prim) {
	t.Helper()
	for item := range 4 {
		l := rows(4)
		l[item] = p
		want := fault(code, 2, item)
		if code == api.OK {
			want = scene.Fault{}
		}
		check(t, having(l...), want)
	}
}

// TestThings: P20.1, the second part: how many things there are, and which one is at fault.
func TestThings(t *testing.T) {
	each(func(n int) { valid(t, having(rows(n)...)) }, 0, 1, 2, 3, 1023, 1024)
	each(func(n int) { check(t, having(rows(n)...), fault(api.ErrMany, 2, 0)) }, 1025, 1026, 2048, 5000)
	valid(t, having(rows(1025)[:1024]...))
	each(func(n int) {
		l := rows(1024)
		l[n].Mat = 4
		check(t, having(l...), fault(api.ErrName, 2, n))
		l[1023].Kind = 0
		if n < 1023 {
			check(t, having(l...), fault(api.ErrName, 2, n))
		}
		valid(t, having(l[:n]...))
		check(t, having(append(l, l[0])...), fault(api.ErrMany, 2, 0))
	}, 0, 1, 2, 511, 512, 1022, 1023)
}

// TestTriangles: P20.1, triangles that are valid only just, and that are not.
func TestTriangles(t *testing.T) {
	a, b, c := of(1, 2, 3), of(4, 5, 6), of(7, 8, 10)
	for _, p := range []api.Prim{
		triangle(0, a, b, c), triangle(3, c, b, a), triangle(0, of(0, 0, 0), of(1, 0, 0), of(0, 0, 1)),
		triangle(1, of(edge, edge, edge), of(-edge, -edge, -edge), of(edge-1, edge, edge)), triangle(2, of(edge, 0, 0), of(0, edge, 0), of(0, 0, -edge)),
		triangle(1, of(-edge, -edge, 0), of(edge, edge, 0), of(0, 0, 1)),
	} {
		alone(t, api.OK, p)
	}
	for _, p := range []api.Prim{
		triangle(0, a, a, a), triangle(0, a, a, c), triangle(0, a, b, a), triangle(0, c, b, b), triangle(3, a, b, of(7, 8, 9)), {Kind: 1},
		triangle(1, of(-edge, -edge, -edge), of(edge, edge, edge), of(0, 0, 0)), triangle(1, of(edge, 0, 0), of(-edge, 0, 0), of(0, 0, 0)), triangle(1, of(edge, edge, edge), of(edge, edge, edge), of(edge, edge, edge)),
	} {
		alone(t, api.ErrFlat, p)
	}
	for _, v := range beyond() {
		for _, p := range []api.Prim{triangle(0, v, b, c), triangle(0, a, v, c), triangle(0, a, b, v), triangle(0, v, v, v), triangle(0, v, a, a), triangle(0, a, a, v), triangle(4, a, v, a)} {
			alone(t, api.ErrRange, p)
		}
	}
}

// TestUseless: P20.1, triangles with three places that are not valid for another reason than being flat: the error is that of their kind.
func TestUseless(t *testing.T) {
	s := triangle(0, of(1, 2, 3), of(4, 5, 6), of(7, 8, 10))
	each(func(n int) {
		p := s
		p.R = n
		alone(t, api.ErrFlat, p)
		p.A = of(0, 0, edge+1)
		alone(t, api.ErrRange, p)
	}, 1, -1, thin, 5, thick, most, least)
}

// TestBalls: P20.1, balls that are valid only just, and that are not.
func TestBalls(t *testing.T) {
	each(func(n int) { alone(t, api.OK, round(0, of(1, 2, 3), n)) }, thin, thin+1, 1000, thick-1, thick)
	each(func(n int) { alone(t, api.ErrRange, round(0, of(1, 2, 3), n)) }, thin-1, 1, 0, -1, -thin, -5, -thick, thick+1, edge, 1<<32+5, most, least)
	for _, v := range around() {
		alone(t, api.OK, round(3, v, thin))
		alone(t, api.OK, round(3, v, thick))
	}
	for _, v := range beyond() {
		alone(t, api.ErrRange, round(3, v, thin))
		alone(t, api.ErrRange, round(3, v, thick))
	}
	for _, v := range append(around(), of(1, 0, 0), of(0, -1, 0), of(0, 0, 1), of(most, least, 1)) {
		alone(t, api.ErrRange, api.Prim{Kind: 2, A: of(1, 2, 3), B: v, R: 5})
		alone(t, api.ErrRange, api.Prim{Kind: 2, A: of(1, 2, 3), C: v, R: 5})
		alone(t, api.ErrRange, api.Prim{Kind: 2, A: of(1, 2, 3), B: v, C: of(-1, 3, 2), R: 5})
	}
}

// TestKinds: P20.1, kinds of things that are none.
func TestKinds(t *testing.T) {
	each(func(n int) {
		for _, p := range append(sample().Prims, api.Prim{}, api.Prim{A: of(edge+1, 0, 0)}, api.Prim{Mat: 4}, api.Prim{R: 5}) {
			p.Kind = n
			alone(t, api.ErrRange, p)
		}
	}, 0, 3, 4, -1, -2, 257, 1<<32+1, 1<<32+2, most, least)
}

// TestMaterials: P20.1, the materials of things: those that the scene has, those that it does not have, and those that no scene has.
func TestMaterials(t *testing.T) {
	s, b := sample().Prims[0], sample().Prims[1]
	for count := 1; count <= 64; count++ {
		with := func(p api.Prim, mat int) api.Scene {
			p.Mat = mat
			x := having(s, p)
			x.Mats = slices.Repeat(x.Mats[:1], count)
			return x
		}
		for mat := range 64 {
			want := scene.Fault{}
			if mat >= count {
				want = fault(api.ErrName, 2, 1)
			}
			check(t, with(s, mat), want)
			check(t, with(b, mat), want)
		}
		each(func(mat int) {
			check(t, with(s, mat), fault(api.ErrFlat, 2, 1)) // not valid in itself, with three places
			check(t, with(b, mat), fault(api.ErrRange, 2, 1))
		}, -1, -2, -64, 64, 65, 127, 1<<32, 1<<32+1, most, least)
	}
}

// TestHidden: P20.1, what lies beyond the length of a list is not there.
func TestHidden(t *testing.T) {
	s := sample()
	hidden := s
	hidden.Mats, hidden.Lights = s.Mats[:3], s.Lights[:2]
	check(t, hidden, fault(api.ErrName, 2, 1))
	hidden = s
	hidden.Prims = s.Prims[:2]
	check(t, hidden, fault(api.ErrName, 3, 2))
	s.Mats[3], s.Prims[3], s.Lights[2] = api.Mat{}, api.Prim{}, api.Light{}
	s.Prims[1].Mat = 0
	s.Mats, s.Prims, s.Lights = s.Mats[:3], s.Prims[:3], s.Lights[:2]
	valid(t, s)
}
