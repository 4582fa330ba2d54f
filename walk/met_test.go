package walk_test

import (
	"slices"
	"testing"

	"skylight/api"
	"skylight/box"
	"skylight/tree"
	"skylight/walk"
)

// meets asks how many boxes of a tree the ray meets.
func meets(t *testing.T, x tree.Tree, r api.Ray, want int) {
	t.Helper()
	if got := walk.Met(x, r); got != want {
		t.Errorf("%v meets %d boxes of %v, not %d", r, got, x, want)
	}
}

// TestMet: P17.2, no nodes, one leaf that is met, and one that is not, and nodes that are met although a part of them is not.
func TestMet(t *testing.T) {
	meets(t, tree.Tree{}, up(-1), 0)
	meets(t, tree.Tree{Nodes: []tree.Node{}, Order: []int{}}, up(-1), 0)
	one := tree.Build(row(0))
	meets(t, one, along(of(200, 0, 0), of(-1, 0, 0)), 1)
	meets(t, one, along(of(200, 0, 0), of(1, 0, 0)), 0)
	meets(t, one, along(of(200, 6, 0), of(-1, 0, 0)), 0)
	meets(t, one, along(of(200, 4, 4), of(-1, 0, 0)), 1) // the ball is not met
	three := tree.Build(row(0, 50, 100))                 // of the first one, and of both others
	meets(t, three, api.Ray{O: of(200, 0, 0), D: of(-1, 0, 0)}, 3)
	meets(t, three, along(of(-200, 0, 0), of(1, 0, 0)), 3)
	meets(t, three, along(of(-200, 0, 0), of(-1, 0, 0)), 0)
	meets(t, three, along(of(0, 0, -20), of(0, 0, 1)), 2)
	meets(t, three, along(of(70, 0, -20), of(0, 0, 1)), 2)
	meets(t, three, along(of(30, 0, -20), of(0, 0, 1)), 1)
	meets(t, three, along(of(30, 0, 0), of(1, 0, 0)), 2)
	meets(t, three, along(of(30, 0, 0), of(-1, 0, 0)), 2)
	meets(t, three, along(of(150, 0, -20), of(0, 0, 1)), 0)
	meets(t, three, along(of(0, 0, -20), of(9, 0, 4)), 2)
	meets(t, leftward(row(0, 50, 100), []int{2, 0, 1}, 1), along(of(30, 0, 0), of(1, 0, 0)), 4)
	meets(t, rightward(row(0, 50, 100), []int{0, 1, 2}, 1), along(of(200, 0, 0), of(-1, 0, 0)), 5)
}

// TestMetTouched: P17.2, a ray that touches boxes on a face, on an edge, and at a corner, and one that passes by.
func TestMetTouched(t *testing.T) {
	x := tree.Build(row(0, 50, 100))
	for _, leaves := range []int{-1, 0, 1, 7} {
		touch := func(o, d api.Vec, want int) {
			t.Helper()
			meets(t, x, leaving(leaves, o, d), want)
		}
		touch(of(-20, 5, 0), of(1, 0, 0), 3)
		touch(of(-20, 0, -5), of(3, 0, 0), 3)
		touch(of(-20, 6, 0), of(1, 0, 0), 0)
		touch(of(-5, -20, 0), of(0, 1, 0), 2)
		touch(of(-6, -20, 0), of(0, 1, 0), 0)
		touch(of(105, 1, 20), of(0, 0, -1), 2)
		touch(of(45, 1, 20), of(0, 0, -1), 2)
		touch(of(44, 1, 20), of(0, 0, -1), 1)
		touch(of(-20, 5, 5), of(1, 0, 0), 3)
		touch(of(-20, 5, 6), of(1, 0, 0), 0)
		touch(of(-5, 5, -20), of(0, 0, 1), 2)
		touch(of(-7, 3, 0), of(1, 1, 0), 2)
		touch(of(-8, 3, 0), of(1, 1, 0), 0)
		touch(of(-8, 2, 2), of(1, 1, 1), 2)
		touch(of(-8, 2, 1), of(1, 1, 1), 2)
		touch(of(-8, 3, 2), of(1, 1, 1), 0)
		touch(of(108, 2, 2), of(-1, 1, 1), 2)
		touch(of(108, 8, 2), of(-1, -1, 1), 2)
		touch(of(109, 8, 2), of(-1, -1, 1), 0)
	}
}

// TestMetBegins: P17.2, boxes behind the ray's origin, and a ray that begins in a box, on a face, on an edge or at a corner, along something and along nothing.
func TestMetBegins(t *testing.T) {
	x := tree.Build(row(0, 50, 100))
	meets(t, x, along(of(106, 0, 0), of(1, 0, 0)), 0)
	meets(t, x, along(of(105, 0, 0), of(1, 0, 0)), 2)
	meets(t, x, along(of(105, 5, 0), of(1, 1, 0)), 2)
	meets(t, x, along(of(105, 5, 5), of(1, 1, 1)), 2)
	meets(t, x, along(of(104, 4, 4), of(1, 1, 1)), 2)
	meets(t, x, along(of(6, 0, 0), of(-1, 0, 0)), 2)
	meets(t, x, along(of(6, 0, 0), of(1, 0, 0)), 2)
	meets(t, x, along(of(6, 0, 0), of(0, 1, 0)), 1)
	meets(t, x, along(of(0, 6, 0), of(0, 1, 0)), 0)
	for _, c := range []struct {
		o    api.Vec
		want int
	}{
		{of(0, 0, 0), 2}, {of(50, 0, 0), 2}, {of(75, 2, 3), 2}, {of(30, 0, 0), 1}, {of(-5, 0, 0), 2}, {of(5, 5, 0), 2}, {of(105, 5, -5), 2}, {of(6, 0, 0), 1}, {of(44, 5, 5), 1}, {of(45, 5, 5), 2}, {of(0, 6, 0), 0}, {of(-6, 0, 0), 0}, {of(106, 5, 5), 0}, {of(50, 0, -6), 0},
	} {
		meets(t, x, along(c.o, of(0, 0, 0)), c.want)
	}
}

// TestMetWide: P17.2 and P10.3 for nodes, lists of every size, by trees of every shape and order: one box at a time, and of a node whose box is not met no part is.
func TestMetWide(t *testing.T) {
	var counts []int
	for _, bound := range []int{2, 6, 30, 1000, edge} {
		m := made(uint64(300 + bound))
		for round := range 120 {
			l := m.things(round%15, bound)
			for _, x := range m.grown(l) {
				r := m.ray(l, bound)
				want := 0
				for place, n := range x.Nodes {
					met := box.Hit(n.Box, r, api.Frac{})
					if met {
						want++
					}
					if n.Count == 0 && !met && (box.Hit(x.Nodes[place+1].Box, r, api.Frac{}) || box.Hit(x.Nodes[n.Right].Box, r, api.Frac{})) {
						t.Fatalf("%v meets a part of node %d of %v, and not the node", r, place, x)
					}
				}
				meets(t, x, r, want)
				counts = append(counts, want)
			}
		}
	}
	if slices.Max(counts) < 15 || len(slices.Compact(slices.Sorted(slices.Values(counts)))) < 12 {
		t.Errorf("there were at most %d boxes", slices.Max(counts))
	}
}
