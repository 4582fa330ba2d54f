package mesh_test

import (
	"fmt"
	"math/rand/v2"
	"slices"
	"testing"

	"skylight/api"
	"skylight/mesh"
	"skylight/pose"
)

// turned is a triangle whose corners begin with the second one.
func (t triangle) turned() triangle { return triangle{t[1], t[2], t[0]} }

// back is a triangle whose corners are in the opposite order.
func (t triangle) back() triangle { return triangle{t[0], t[2], t[1]} }

// rounds holds a triangle, beginning with each of its corners.
func (t triangle) rounds() []triangle { return []triangle{t, t.turned(), t.turned().turned()} }

// shown is how a list of things is told: at most that much of it.
func shown(l []api.Prim) string { return fmt.Sprintf("%.300s", fmt.Sprint(l)) }

// closed fails if Closed of a list is another answer, or changes the list.
func closed(t *testing.T, l []api.Prim, want bool) {
	t.Helper()
	kept := slices.Clone(l)
	if got := mesh.Closed(l); got != want {
		t.Errorf("Closed of %d things is %t: %s", len(l), got, shown(l))
	}
	if !slices.Equal(l, kept) {
		t.Errorf("Closed changes its argument: %s", shown(kept))
	}
}

// count is how many triangles of l have two corners one after the other.
func count(l []api.Prim, from, to api.Vec) int {
	n := 0
	for _, p := range l {
		if p.A == from && p.B == to || p.B == from && p.C == to || p.C == from && p.A == to {
			n++
		}
	}
	return n
}

// definedClosed is whether l is closed by the definition.
func definedClosed(l []api.Prim) bool {
	for _, p := range l {
		if p.Kind != 1 {
			return false
		}
		for _, pair := range [][2]api.Vec{{p.A, p.B}, {p.B, p.C}, {p.C, p.A}} {
			if count(l, pair[0], pair[1]) != count(l, pair[1], pair[0]) {
				return false
			}
		}
	}
	return true
}

// Corners of small meshes.
var (
	o = of(0, 0, 0)
	x = of(9, 0, 0)
	y = of(0, 9, 0)
	z = of(0, 0, 9)
)

// tetrahedron holds four triangles that leave nothing open.
func tetrahedron() []triangle { return []triangle{{o, y, x}, {o, z, y}, {o, x, z}, {x, y, z}} }

// TestClosedNone: P19.2, no things are closed.
func TestClosedNone(t *testing.T) {
	closed(t, nil, true)
	closed(t, []api.Prim{}, true)
	closed(t, things(0, triangle{o, x, y})[:0], true)
}

// TestClosedOthers: P19.2, things that are no triangles, alone and among triangles that are closed without them, or with them if they were triangles.
func TestClosedOthers(t *testing.T) {
	whole := things(2, tetrahedron()...)
	for _, kind := range []int{2, 0, 3, -1, 257, most, least} {
		for _, other := range []api.Prim{{Kind: kind}, {Kind: kind, A: x, R: 5}, {Kind: kind, A: o, B: y, C: x, Mat: 2}} {
			closed(t, []api.Prim{other}, false)
			closed(t, []api.Prim{other, other}, false)
			closed(t, []api.Prim{other, {Kind: kind, A: o, B: x, C: y}}, false)
			for place := range len(whole) + 1 {
				closed(t, slices.Insert(slices.Clone(whole), place, other), false)
			}
		}
		for place := range whole {
			changed := slices.Clone(whole)
			changed[place].Kind = kind
			closed(t, changed, false)
		}
	}
}

// TestClosedFew: P19.2, one triangle, its opposite, and the same triangle twice, beginning with each corner.
func TestClosedFew(t *testing.T) {
	one := triangle{x, y, z}
	for _, a := range one.rounds() {
		closed(t, things(0, a), false)
		closed(t, things(0, a.back()), false)
		for _, b := range one.rounds() {
			closed(t, things(0, a, b), false)
			closed(t, things(0, a, b.back()), true)
			closed(t, things(0, b.back(), a), true)
			for _, c := range one.rounds() {
				closed(t, things(0, a, b, c), false)
				closed(t, things(0, a, b, c.back()), false)
				closed(t, things(0, a.back(), b, c), false)
				closed(t, things(0, a, b.back(), c.back(), a), true)
				closed(t, things(0, a, b, c.back(), c.back()), true)
				closed(t, things(0, a, b, c, a.back()), false)
			}
		}
	}
}

// TestClosedApart: P19.2, corners are the same only if all their coordinates are, whatever these are.
func TestClosedApart(t *testing.T) {
	for _, n := range []int{1, -1, 2, 9, edge, near, 1 << 21, 1 << 31, 1 << 32, -1 << 32, 1 << 42, most, least} {
		for axis := range 3 {
			at := list(z)
			at[axis] += n
			other := of(at[0], at[1], at[2])
			closed(t, things(0, triangle{x, y, z}, triangle{y, x, z}), true)
			closed(t, things(0, triangle{x, y, z}, triangle{y, x, other}), false)
			closed(t, things(0, triangle{x, y, other}, triangle{other, y, x}), true)
		}
	}
	closed(t, things(0, triangle{of(1, 2, 3), of(3, 2, 1), of(2, 3, 1)}, triangle{of(3, 2, 1), of(1, 2, 3), of(2, 1, 3)}), false)
	closed(t, things(0, triangle{of(-1, 2, 3), of(3, 2, 1), of(2, 3, 1)}, triangle{of(3, 2, 1), of(1, 2, 3), of(2, 3, 1)}), false)
}

// TestClosedCommon: P19.2, triangles and meshes that have corners or sides in common.
func TestClosedCommon(t *testing.T) {
	w := of(-9, -9, -9)
	// A corner in common, a side in common the same way and the opposite way.
	closed(t, things(0, triangle{o, x, y}, triangle{o, z, w}), false)
	closed(t, things(0, triangle{o, x, y}, triangle{o, x, z}), false)
	closed(t, things(0, triangle{o, x, y}, triangle{x, o, z}), false)
	closed(t, things(0, triangle{o, x, y}, triangle{x, o, z}, triangle{o, y, z}), false)
	closed(t, things(0, triangle{o, x, y}, triangle{o, y, x}, triangle{o, z, w}, triangle{z, o, w}), true)
	// Two triangles on the one side, and two on the other, with other third corners.
	closed(t, things(0, triangle{o, x, y}, triangle{o, x, z}, triangle{x, o, w}), false)
	closed(t, things(0, triangle{o, x, y}, triangle{o, x, z}, triangle{x, o, y}, triangle{x, o, z}), true)
	// The same sides, of which one is gone along twice the same way.
	closed(t, things(0, triangle{o, x, y}, triangle{o, y, x}, triangle{o, x, y}), false)
	first, _ := mesh.Cube(pose.None(), 0)
	for _, move := range []api.Vec{of(128, 0, 0), of(128, 128, 0), of(128, 128, -128), of(0, 0, 0), of(64, 0, 0)} {
		next, _ := mesh.Cube(pose.Moved(move), 1)
		both := slices.Concat(first, next)
		closed(t, both, true)
		for place := range both {
			closed(t, slices.Delete(slices.Clone(both), place, place+1), false)
		}
	}
	// A grid on which another one lies, with its other side up.
	up, _ := mesh.Grid(4, pose.None(), 0)
	downward := slices.Clone(up)
	for i, p := range downward {
		downward[i].B, downward[i].C = p.C, p.B
	}
	closed(t, slices.Concat(up, up), false)
	closed(t, slices.Concat(up, downward), true)
	closed(t, slices.Concat(up, downward[1:]), false)
	turned, _ := mesh.Grid(4, pose.Turned(0, 32768), 0)
	closed(t, slices.Concat(up, turned), true)
}

// closedMeshes holds some lists of triangles that leave nothing open.
func closedMeshes() [][]api.Prim {
	all := [][]api.Prim{things(0, tetrahedron()...), things(0, triangle{o, x, y}, triangle{o, y, x})}
	for _, s := range []shape{cube(), cone(3), cone(4), cone(9), cone(32)} {
		l, _ := s.build(pose.Turned(1, 7000), 3)
		all = append(all, l)
	}
	return all
}

// TestClosedWithout: P19.2, a closed mesh without one of its triangles, with one twice, or with the opposite of one.
func TestClosedWithout(t *testing.T) {
	for _, l := range closedMeshes() {
		closed(t, l, true)
		for place, p := range l {
			without := slices.Delete(slices.Clone(l), place, place+1)
			closed(t, without, false)
			closed(t, append(slices.Clone(without), p), true)
			closed(t, append(slices.Clone(l), p), false)
			opposite := p
			opposite.B, opposite.C = p.C, p.B
			closed(t, append(slices.Clone(l), opposite), false)
			closed(t, append(slices.Clone(l), opposite, p), true)
			closed(t, append(slices.Clone(without), opposite), false)
		}
		// What lies beyond the length does not count.
		closed(t, l[:len(l)-1], false)
		closed(t, append(slices.Clone(l), api.Prim{Kind: 2})[:len(l)], true)
	}
}

// TestClosedOrder: P19.2, the order of the triangles does not matter, nor with which corner each begins; the order of the corners does.
func TestClosedOrder(t *testing.T) {
	random := rand.New(rand.NewPCG(19, 1))
	for _, l := range closedMeshes() {
		open := slices.Clone(l)[:len(l)-1]
		for range 20 {
			for _, some := range [][]api.Prim{l, open} {
				random.Shuffle(len(some), func(i, k int) { some[i], some[k] = some[k], some[i] })
				for i := range some {
					for range random.IntN(3) {
						p := &some[i]
						p.A, p.B, p.C = p.B, p.C, p.A
					}
				}
			}
			closed(t, l, true)
			closed(t, open, false)
		}
		for i := range l {
			for _, corners := range []func(p *api.Prim) (a, b *api.Vec){
				func(p *api.Prim) (a, b *api.Vec) { return &p.A, &p.B },
				func(p *api.Prim) (a, b *api.Vec) { return &p.B, &p.C },
				func(p *api.Prim) (a, b *api.Vec) { return &p.C, &p.A },
			} {
				swapped := slices.Clone(l)
				a, b := corners(&swapped[i])
				*a, *b = *b, *a
				closed(t, swapped, false)
			}
		}
		for i, p := range l {
			l[i].A, l[i].B = p.B, p.A
		}
		closed(t, l, true)
	}
}

// TestClosedKind: P19.2, the kind and the corners alone matter, also of triangles that are flat or no things: their sides are counted as others are.
func TestClosedKind(t *testing.T) {
	l := things(0, tetrahedron()...)
	for i := range l {
		l[i].Mat, l[i].R = i*1000-7, i-2
	}
	closed(t, l, true)
	closed(t, things(0, triangle{o, o, o}), true)
	closed(t, things(0, triangle{o, o, x}), true)
	closed(t, things(0, triangle{x, o, x}), true)
	closed(t, things(0, triangle{o, x, of(18, 0, 0)}), false)
	closed(t, things(0, triangle{o, x, of(18, 0, 0)}, triangle{of(18, 0, 0), x, o}), true)
	closed(t, append(things(0, tetrahedron()...), things(0, triangle{x, x, y})...), true)
	closed(t, things(0, triangle{of(most, least, 0), x, of(edge+1, 0, 0)}), false)
	closed(t, things(0, triangle{of(most, least, 0), x, of(edge+1, 0, 0)}, triangle{x, of(most, least, 0), of(edge+1, 0, 0)}), true)
	closed(t, things(0, triangle{of(least, 0, 0), of(most, 0, 0), y}, triangle{of(least, 0, 0), of(most, 0, 0), y}), false)
}

// TestClosedEvery: P19.2, all lists of up to three triangles with corners out of four, and random ones that are longer, against the definition.
func TestClosedEvery(t *testing.T) {
	var all []triangle
	corners := []api.Vec{o, x, y, z}
	for number := range 64 {
		all = append(all, triangle{corners[number%4], corners[number/4%4], corners[number/16]})
	}
	yes := 0
	try := func(l []api.Prim) {
		want := definedClosed(l)
		if got := mesh.Closed(l); got != want {
			t.Fatalf("Closed is %t: %v", got, l)
		}
		if want {
			yes++
		}
	}
	for _, a := range all {
		try(things(0, a))
		for _, b := range all {
			try(things(0, a, b))
			for _, c := range all {
				try(things(0, a, b, c))
			}
		}
	}
	random := rand.New(rand.NewPCG(19, 2))
	for range 20000 {
		var l []triangle
		for range random.IntN(6) {
			one := triangle{o, x, y}
			if random.IntN(2) == 0 {
				one = all[random.IntN(len(all))]
			}
			l = append(l, one)
			if random.IntN(8) > 0 {
				l = append(l, one.back().rounds()[random.IntN(3)])
			}
		}
		random.Shuffle(len(l), func(i, k int) { l[i], l[k] = l[k], l[i] })
		try(things(0, l...))
	}
	if yes < 10000 {
		t.Errorf("only %d lists are closed", yes)
	}
}

// TestClosedGreat: P19.2, very many triangles.
func TestClosedGreat(t *testing.T) {
	const side = 200
	var l []triangle
	for k := range side {
		for i := range side {
			// A sheet that is bent round along both axes, so that it has no end.
			a, b, c, d := of(i, k, 0), of((i+1)%side, k, 0), of((i+1)%side, (k+1)%side, 0), of(i, (k+1)%side, 0)
			l = append(l, face(a, b, c, d)...)
		}
	}
	great := things(0, l...)
	closed(t, great, true)
	closed(t, great[1:], false)
	closed(t, great[:len(great)-1], false)
	closed(t, append(great, api.Prim{Kind: 2}), false)
}
