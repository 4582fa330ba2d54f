package walk_test

import (
	"slices"
	"testing"

	"skylight/api"
	"skylight/plain"
	"skylight/tree"
	"skylight/walk"
)

// free tells whether nothing of l is met between two places, by the definition.
func free(l []api.Prim, from, to api.Vec, leaves int) bool {
	way := leaving(leaves, from, of(to.X-from.X, to.Y-from.Y, to.Z-from.Z))
	return !slices.ContainsFunc(plain.All(l, way), func(h api.Hit) bool { return h.T.N < h.T.D })
}

// passes asks whether it is clear between two places, by the definition, and by all trees of the things.
func passes(t *testing.T, l []api.Prim, from, to api.Vec, leaves int, want bool) {
	t.Helper()
	if got := free(l, from, to, leaves); got != want {
		t.Errorf("from %v to %v, leaving %d, it is free of %v: %t", from, to, leaves, l, got)
	}
	for _, x := range wholes(t, l) {
		if got := walk.Clear(x, l, from, to, leaves); got != want {
			t.Fatalf("from %v to %v, leaving %d, of %v by %v: %t", from, to, leaves, l, x, got)
		}
	}
}

// TestClear: P17.2, a thing before the fraction 1, just at it, and behind it, one that the way leaves, and one behind where it begins.
func TestClear(t *testing.T) {
	l, o := []api.Prim{sheet(5, 8), sheet(20, 8)}, of(1, 1, 0)
	for _, leaves := range []int{-1, 1, 2, 7, most, -2, least} {
		passes(t, l, o, of(1, 1, 6), leaves, false)
		passes(t, l, o, of(1, 1, 5), leaves, true)
		passes(t, l, o, of(1, 1, 4), leaves, true)
		passes(t, l, o, of(1, 1, -6), leaves, true)
		passes(t, l, o, of(3, 3, 6), leaves, false)
		passes(t, l, o, of(5, 5, 6), leaves, true)
		passes(t, l, o, of(12, 12, 7), leaves, true)
	}
	passes(t, l, o, of(1, 1, 6), 0, true)
	passes(t, l, o, of(1, 1, 20), 0, true)
	passes(t, l, o, of(1, 1, 21), 0, false)
	passes(t, l, o, of(1, 1, 21), 1, false)
	passes(t, l, of(1, 1, 5), of(1, 1, 20), -1, true)
	passes(t, l, of(1, 1, 5), of(1, 1, 20), 0, true)
	passes(t, l, of(1, 1, 4), of(1, 1, 20), -1, false)
	passes(t, l, of(1, 1, 5), of(1, 1, 21), 1, true)
	passes(t, l, of(0, 0, 5), of(7, 1, 5), -1, true)
	passes(t, l[1:], o, of(1, 1, 6), -1, true)
	passes(t, times(9, l[0]), o, of(1, 1, 6), 4, false)
	passes(t, times(1, l[0]), o, of(1, 1, 6), 0, true)
}

// TestClearSame: P17.2, two places that are the same: nothing is between them, wherever they are, and whatever the way leaves.
func TestClearSame(t *testing.T) {
	l := []api.Prim{round(of(0, 0, 0), 9), sheet(5, 8), round(of(40, 0, 0), 5)}
	for _, at := range []api.Vec{of(0, 0, 0), of(1, 2, 3), of(9, 0, 0), of(1, 1, 5), of(0, 0, 5), of(20, 0, 0), of(35, 0, 0), of(edge, edge, -edge)} {
		for _, leaves := range []int{-1, 0, 1, 2, 3} {
			passes(t, l, at, at, leaves, true)
			passes(t, nil, at, at, leaves, true)
		}
	}
}

// TestClearNothing: P17.2, without things everything is clear.
func TestClearNothing(t *testing.T) {
	ends := []api.Vec{of(0, 0, 0), of(1, 2, 3), of(edge, edge, edge), of(-edge, -edge, edge)}
	for _, from := range ends {
		for _, to := range ends {
			for _, leaves := range []int{-1, 0, 1, most} {
				passes(t, nil, from, to, leaves, true)
			}
		}
	}
}

// TestClearRound: P17.2, either way round, and places inside a ball, on its surface, and on either side.
func TestClearRound(t *testing.T) {
	l := []api.Prim{round(of(0, 0, 0), 10), round(of(60, 0, 0), 5)}
	for _, c := range []struct {
		a, b        api.Vec
		there, back bool
	}{
		{of(-20, 0, 0), of(20, 0, 0), false, false}, {of(-20, 11, 0), of(20, 11, 0), true, true}, {of(20, 0, 0), of(50, 0, 0), true, true}, {of(20, 0, 0), of(80, 0, 0), false, false}, {of(-20, 0, 0), of(80, 0, 0), false, false},
		{of(-3, 2, 1), of(6, 0, -2), true, true}, {of(0, 0, 0), of(9, 0, 0), true, true}, {of(0, 0, 0), of(20, 0, 0), false, false}, {of(3, 0, 0), of(3, 50, 0), false, false}, {of(0, 0, 0), of(60, 0, 0), false, false},
		{of(0, 0, 0), of(10, 0, 0), true, true}, {of(0, 0, 0), of(11, 0, 0), false, false}, {of(20, 0, 0), of(10, 0, 0), true, true}, {of(-20, 0, 0), of(10, 0, 0), false, false}, {of(10, 0, 0), of(-10, 0, 0), true, true}, {of(10, 0, 0), of(55, 0, 0), true, true}, {of(10, 0, 0), of(65, 0, 0), false, false},
	} {
		passes(t, l, c.a, c.b, -1, c.there)
		passes(t, l, c.b, c.a, -1, c.back)
	}
	passes(t, l, of(10, 0, 0), of(-10, 0, 0), 0, true)
	passes(t, l, of(10, 0, 0), of(-11, 0, 0), 0, false)
	passes(t, l, of(10, 0, 0), of(50, 0, 0), 0, true)
	passes(t, l, of(10, 0, 0), of(80, 0, 0), 0, false)
	passes(t, l, of(10, 0, 0), of(80, 0, 0), 1, true)
	passes(t, l, of(10, 0, 0), of(111, 0, 0), 1, false)
	passes(t, l, of(5, 0, 0), of(-4, 0, 0), 0, true)
	passes(t, l, of(5, 0, 0), of(-6, 0, 0), 0, false)
	passes(t, l, of(5, 0, 0), of(50, 0, 0), 0, true)
	passes(t, l, of(-20, 0, 0), of(20, 0, 0), 0, true)
	passes(t, l, of(-20, 0, 0), of(21, 0, 0), 0, false)
	passes(t, l, of(-20, 50, 0), of(21, 50, 0), 0, false)
}

// TestClearFar: P17.2, the places that are farthest apart.
func TestClearFar(t *testing.T) {
	low, high := of(-edge, -edge, -edge), of(edge, edge, edge)
	for _, leaves := range []int{-1, 1} {
		passes(t, []api.Prim{round(of(0, 0, 0), 4)}, low, high, leaves, false)
		passes(t, []api.Prim{round(of(0, 0, 9), 4)}, low, high, leaves, true)
		passes(t, []api.Prim{round(of(0, 0, 0), thick)}, of(-edge, edge, 0), of(edge, -edge, 0), leaves, false)
		passes(t, []api.Prim{round(of(edge, edge, edge), thick)}, of(-edge, edge, edge), of(edge-thick, edge, edge), leaves, true)
		passes(t, []api.Prim{round(of(edge, edge, edge), thick)}, of(-edge, edge, edge), of(edge-thick+1, edge, edge), leaves, false)
	}
	passes(t, []api.Prim{round(of(0, 0, 0), 4)}, low, high, 0, true)
	passes(t, []api.Prim{round(of(-1, 0, 0), 4)}, low, high, 0, false)
	passes(t, []api.Prim{round(of(0, 0, 0), 4)}, low, of(0, 0, 0), 0, true)
	passes(t, []api.Prim{round(of(0, 0, 0), 4)}, low, of(0, 0, 0), -1, false)
}

// TestClearWide: P17.2 and P17.3, lists of every size, by trees of every shape and order: against the definition.
func TestClearWide(t *testing.T) {
	yes, no := 0, 0
	for _, bound := range []int{2, 6, 30, 1000, edge} {
		m := made(uint64(200 + bound))
		for round := range 150 {
			l := m.things(round%12, bound)
			all := m.grown(l)
			for range 10 {
				r := m.ray(l, bound)
				to := of(r.O.X+r.D.X, r.O.Y+r.D.Y, r.O.Z+r.D.Z)
				if max(to.X, to.Y, to.Z) > edge || min(to.X, to.Y, to.Z) < -edge {
					to = m.place(bound)
				}
				want := free(l, r.O, to, r.From)
				if want {
					yes++
				} else {
					no++
				}
				for _, x := range all {
					if got := walk.Clear(x, l, r.O, to, r.From); got != want {
						t.Fatalf("from %v to %v, leaving %d, of %v by %v: %t", r.O, to, r.From, l, x, got)
					}
				}
			}
		}
	}
	if min(yes, no) < 1000 {
		t.Errorf("it was clear %d times, and not %d times", yes, no)
	}
}

// TestClearExample: P17.2, the way between balls in a row that is barred by one of them.
func TestClearExample(t *testing.T) {
	if !walk.Clear(tree.Tree{}, nil, of(0, 0, 0), of(9, 0, 0), -1) {
		t.Error("without things, it is not clear from (0, 0, 0) to (9, 0, 0)")
	}
	passes(t, row(0, 50, 100), of(-20, 0, 0), of(20, 0, 0), -1, false)
	passes(t, row(0, 50, 100), of(20, 0, 0), of(40, 0, 0), -1, true)
}
