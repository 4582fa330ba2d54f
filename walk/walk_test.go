package walk_test

import (
	"math"
	"slices"
	"testing"

	"skylight/api"
	"skylight/box"
	"skylight/frac"
	"skylight/plain"
	"skylight/prim"
	"skylight/tree"
	"skylight/walk"
)

const (
	least = math.MinInt
	most  = math.MaxInt
	edge  = 1 << 19 // as far as places go
	near  = 1 << 20 // as far as near coordinates go
	thick = 1 << 18 // the greatest radius
	full  = 1024    // as many things as a list may have
)

// of is the vector with these coordinates.
func of(x, y, z int) api.Vec { return api.Vec{X: x, Y: y, Z: z} }

// fraction is n / d.
func fraction(n, d int) api.Frac { return api.Frac{N: n, D: d} }

// hit is the one of the thing with that index, at n / d.
func hit(index, n, d int) api.Hit { return api.Hit{Prim: index, T: fraction(n, d)} }

// leaving is the ray from o along d that leaves the thing with that index.
func leaving(index int, o, d api.Vec) api.Ray { return api.Ray{O: o, D: d, From: index} }

// up is the ray from (1, 1, 0) along (0, 0, 1) that leaves the thing with that index.
func up(index int) api.Ray { return leaving(index, of(1, 1, 0), of(0, 0, 1)) }

// along is the ray from o along d that leaves nothing.
func along(o, d api.Vec) api.Ray { return leaving(-1, o, d) }

// triangle is the thing with these corners.
func triangle(a, b, c api.Vec) api.Prim { return api.Prim{Kind: 1, A: a, B: b, C: c} }

// round is the ball around c of the radius r.
func round(c api.Vec, r int) api.Prim { return api.Prim{Kind: 2, A: c, R: r} }

// sheet is the triangle at the height z with sides of that length, which up meets at z * side * side / (side * side).
func sheet(z, side int) api.Prim {
	return triangle(of(0, 0, z), of(side, 0, z), of(0, side, z))
}

// globe is the ball of the radius r whose center is at the height z, which up meets at (z - r) / 1, or at (z + r) / 1 from inside.
func globe(z, r int) api.Prim { return round(of(1, 1, z), r) }

// row holds balls of the radius 5 that stand there along X.
func row(places ...int) []api.Prim {
	var l []api.Prim
	for _, x := range places {
		l = append(l, round(of(x, 0, 0), 5))
	}
	return l
}

// times holds that many of p.
func times(count int, p api.Prim) []api.Prim { return slices.Repeat([]api.Prim{p}, count) }

// between is the box with these corners.
func between(lo, hi api.Vec) box.Box { return box.Box{Lo: lo, Hi: hi} }

// hull is the least box around the things of l with these indices, of which there is one at least.
func hull(l []api.Prim, indices []int) box.Box {
	b := prim.Box(l[indices[0]])
	for _, index := range indices {
		b = box.Join(b, prim.Box(l[index]))
	}
	return b
}

// single is a tree of one leaf, whose things stand as in order.
func single(l []api.Prim, order []int) tree.Tree {
	return tree.Tree{Nodes: []tree.Node{{Box: hull(l, order), Count: len(order)}}, Order: slices.Clone(order)}
}

// joined is the tree of things of l whose left part is the one tree, and whose right part is the other one.
func joined(l []api.Prim, left, right tree.Tree) tree.Tree {
	order := slices.Concat(left.Order, right.Order)
	t := tree.Tree{Nodes: []tree.Node{{Box: hull(l, order), Right: 1 + len(left.Nodes)}}, Order: order}
	for _, n := range left.Nodes {
		if n.Count == 0 {
			n.Right++
		}
		t.Nodes = append(t.Nodes, n)
	}
	for _, n := range right.Nodes {
		if n.Count == 0 {
			n.Right += 1 + len(left.Nodes)
		} else {
			n.First += len(left.Order)
		}
		t.Nodes = append(t.Nodes, n)
	}
	return t
}

// leaves holds trees of one leaf each, of that many things of the order, or of fewer in the last one.
func leaves(l []api.Prim, order []int, count int) []tree.Tree {
	var all []tree.Tree
	for some := range slices.Chunk(order, count) {
		all = append(all, single(l, some))
	}
	return all
}

// rightward is a tree whose leaves stand in a line, each as the left part of a node.
func rightward(l []api.Prim, order []int, count int) tree.Tree {
	parts := leaves(l, order, count)
	t := parts[len(parts)-1]
	for _, left := range slices.Backward(parts[:len(parts)-1]) {
		t = joined(l, left, t)
	}
	return t
}

// leftward is a tree whose leaves stand in a line, each as the right part of a node.
func leftward(l []api.Prim, order []int, count int) tree.Tree {
	parts := leaves(l, order, count)
	t := parts[0]
	for _, right := range parts[1:] {
		t = joined(l, t, right)
	}
	return t
}

// places holds the indices of a list of that length.
func places(length int) []int {
	var all []int
	for place := range length {
		all = append(all, place)
	}
	return all
}

// permuted holds all orders of these indices.
func permuted(indices []int) [][]int {
	if len(indices) == 0 {
		return [][]int{nil}
	}
	var all [][]int
	for place, first := range indices {
		for _, rest := range permuted(slices.Concat(indices[:place], indices[place+1:])) {
			all = append(all, slices.Concat([]int{first}, rest))
		}
	}
	return all
}

// orders holds all orders of up to three things, and some of more: as they are, from the last one back, and those from the middle on first.
func orders(length int) [][]int {
	forward := places(length)
	if length <= 3 {
		return permuted(forward)
	}
	back := slices.Clone(forward)
	slices.Reverse(back)
	return [][]int{forward, back, slices.Concat(forward[length/2:], forward[:length/2])}
}

// trees holds the tree that is built of l, and others of its things: one leaf, and leaves in a line, to the right and to the left, of one thing each and of several.
func trees(l []api.Prim) []tree.Tree {
	all := []tree.Tree{tree.Build(l)}
	if len(l) == 0 {
		return append(all, tree.Tree{}, tree.Tree{Nodes: []tree.Node{}, Order: []int{}})
	}
	for _, order := range orders(len(l)) {
		all = append(all, single(l, order))
		for _, count := range []int{1, 2, 3} {
			all = append(all, rightward(l, order, count), leftward(l, order, count))
		}
	}
	return all
}

// limits holds fractions that are not valid, 0, below 0, as great and as small as they come, and those around f.
func limits(f api.Frac) []api.Frac {
	all := []api.Frac{{}, fraction(1, 0), fraction(-1, -2), fraction(most, least), fraction(0, 1), fraction(0, most), fraction(-1, 2), fraction(least, 1), fraction(most, 1), fraction(1, most), fraction(1, 1)}
	if frac.Right(f) {
		all = append(all, f, fraction(f.N-1, f.D), fraction(f.N+1, f.D), fraction(f.N, f.D+1))
	}
	// Of the same value, but of other numbers, as long as these are ints.
	if frac.Right(f) && f.N < 1<<60 && f.D < 1<<60 {
		all = append(all, fraction(3*f.N, 3*f.D), fraction(3*f.N+1, 3*f.D))
	}
	return all
}

// agree asks what the ray meets by each tree, which must be what it meets by the list of its things.
func agree(t *testing.T, all []tree.Tree, l []api.Prim, r api.Ray) {
	t.Helper()
	want, met := plain.Closest(l, r)
	bounds := limits(want.T)
	var answers []bool
	for _, bound := range bounds {
		answers = append(answers, plain.Any(l, r, bound))
	}
	for _, x := range all {
		if got, ok := walk.Closest(x, l, r); got != want || ok != met {
			t.Fatalf("the closest that %v meets of %v, by %v: %v, %t, not %v, %t", r, l, x, got, ok, want, met)
		}
		for place, bound := range bounds {
			if got := walk.Any(x, l, r, bound); got != answers[place] {
				t.Fatalf("%v meets anything of %v before %v, by %v: %t", r, l, bound, x, got)
			}
		}
	}
}

// wholes holds the trees of l, each of which must be whole.
func wholes(t *testing.T, l []api.Prim) []tree.Tree {
	t.Helper()
	all := trees(l)
	for _, x := range all {
		if !tree.Whole(x, l) {
			t.Fatalf("%v is not a whole tree of %v", x, l)
		}
	}
	return all
}

// view is things, a ray, and the hit of what it meets first, which is zero if it meets nothing.
type view struct {
	l    []api.Prim
	r    api.Ray
	want api.Hit
}

// see asks, for each view, what the ray meets by the list, and by all trees of the things.
func see(t *testing.T, views []view) {
	t.Helper()
	for _, v := range views {
		if got, ok := plain.Closest(v.l, v.r); got != v.want || ok != (v.want != api.Hit{}) {
			t.Errorf("the closest that %v meets of %v: %v, %t, not %v", v.r, v.l, got, ok, v.want)
			continue
		}
		agree(t, wholes(t, v.l), v.l, v.r)
	}
}

// before asks whether the ray meets a thing before a fraction, by all trees of the things.
func before(t *testing.T, l []api.Prim, r api.Ray, bound api.Frac, want bool) {
	t.Helper()
	for _, x := range wholes(t, l) {
		if got := walk.Any(x, l, r, bound); got != want {
			t.Errorf("%v meets anything of %v before %v, by %v: %t", r, l, bound, x, got)
		}
	}
}

// TestExamples: P17.1 and P17.2, the chapter's examples: without things nothing is met, and everything is clear.
func TestExamples(t *testing.T) {
	for _, x := range []tree.Tree{{}, {Nodes: []tree.Node{}, Order: []int{}}, tree.Build(nil), tree.Build([]api.Prim{})} {
		for _, l := range [][]api.Prim{nil, {}} {
			for _, r := range []api.Ray{{}, up(-1), up(0), up(7), along(of(edge, -edge, 0), of(-near, near, 1)), along(of(1, 1, 1), of(0, 0, 0))} {
				if got, ok := walk.Closest(x, l, r); got != (api.Hit{}) || ok {
					t.Errorf("%v meets first of nothing: %v, %t", r, got, ok)
				}
				for _, bound := range limits(fraction(5, 3)) {
					if walk.Any(x, l, r, bound) {
						t.Errorf("%v meets something of nothing before %v", r, bound)
					}
				}
				if !walk.Clear(x, l, r.O, of(9, 0, -9), r.From) || !walk.Clear(x, l, of(9, 0, -9), r.O, r.From) {
					t.Errorf("between %v and (9, 0, -9), without things, it is not clear", r.O)
				}
				if got := walk.Met(x, r); got != 0 {
					t.Errorf("%v meets %d boxes of no nodes", r, got)
				}
			}
		}
	}
}

// TestClosest: P17.1, one thing, two, three and more: met, passed, and behind where the ray begins.
func TestClosest(t *testing.T) {
	low, high, ball := sheet(3, 4), sheet(5, 8), globe(20, 8)
	back := along(of(200, 0, 0), of(-1, 0, 0))
	see(t, []view{
		{row(0), back, hit(0, 195, 1)}, {row(0), along(of(200, 0, 0), of(1, 0, 0)), api.Hit{}}, {row(0), along(of(200, 6, 0), of(-1, 0, 0)), api.Hit{}}, {[]api.Prim{low}, up(-1), hit(0, 48, 16)}, {[]api.Prim{sheet(-3, 4)}, up(-1), api.Hit{}}, {[]api.Prim{sheet(0, 4)}, up(-1), api.Hit{}},
		{row(0, 50), back, hit(1, 145, 1)}, {row(50, 0), back, hit(0, 145, 1)}, {row(0, 250), back, hit(0, 195, 1)}, {row(250, 250), back, api.Hit{}}, {[]api.Prim{low, high}, up(-1), hit(0, 48, 16)}, {[]api.Prim{high, low}, up(-1), hit(1, 48, 16)},
		{row(0, 50, 100), back, hit(2, 95, 1)}, {row(100, 50, 0), back, hit(0, 95, 1)}, {row(50, 100, 0), back, hit(1, 95, 1)}, {row(300, 100, 0), back, hit(1, 95, 1)}, {row(300, 250, 0), back, hit(2, 195, 1)}, {row(300, 250, 210), back, api.Hit{}},
		{[]api.Prim{low, high, ball}, up(-1), hit(0, 48, 16)}, {[]api.Prim{ball, high, low}, up(-1), hit(2, 48, 16)}, {[]api.Prim{high, ball, sheet(-9, 8)}, up(-1), hit(0, 320, 64)},
		{row(0, 20, 40, 60, 80, 100, 120, 140), back, hit(7, 55, 1)}, {row(0, 140, 20, 120, 40, 100, 60, 80), back, hit(1, 55, 1)}, {row(0, 20, 40, 60, 80, 100, 120, 140), along(of(-50, 0, 0), of(1, 0, 0)), hit(0, 45, 1)}, {row(0, 20, 40, 60, 80, 100, 120, 140), along(of(70, 0, 0), of(2, 0, 0)), hit(4, 10, 4)}, {row(0, 20, 40, 60, 80, 100, 120, 140), along(of(70, 9, 0), of(0, -1, 0)), api.Hit{}},
		{[]api.Prim{round(of(edge, edge, edge), thick), round(of(-edge, -edge, -edge), thick), triangle(of(edge, -edge, 0), of(-edge, edge, 0), of(edge, edge, 0))}, along(of(edge, edge, -edge), of(0, 0, near)), hit(2, near*near*edge, near*near*near)},
	})
}

// TestAlike: P17.1, things that are all the same, of which the lowest index is told, and things of which no split is told, so that a leaf has more than two of them.
func TestAlike(t *testing.T) {
	ball, flat := row(7)[0], triangle(of(2, 2, 2), of(-2, -2, 2), of(2, -2, -2))
	nest := []api.Prim{round(of(0, 0, 0), 5), round(of(0, 0, 0), 9), round(of(0, 0, 0), 7), round(of(0, 0, 0), 9), round(of(0, 0, 0), 4)}
	cross := []api.Prim{triangle(of(-4, -4, 0), of(4, -4, 0), of(0, 4, 0)), triangle(of(-4, 4, 0), of(4, 4, 0), of(0, -4, 0)), triangle(of(-4, 4, 0), of(4, -4, 0), of(4, 4, 0))}
	for _, l := range [][]api.Prim{times(3, ball), times(8, flat), nest, cross} {
		if built := tree.Build(l); len(built.Nodes) != 1 || built.Nodes[0].Count != len(l) {
			t.Fatalf("%v is not a tree of one leaf", built)
		}
	}
	back := along(of(20, 0, 0), of(-1, 0, 0))
	see(t, []view{
		{times(2, ball), back, hit(0, 8, 1)}, {times(3, ball), back, hit(0, 8, 1)}, {times(8, ball), back, hit(0, 8, 1)}, {times(8, ball), leaving(0, of(20, 0, 0), of(-1, 0, 0)), hit(1, 8, 1)}, {times(8, ball), leaving(3, of(20, 0, 0), of(-1, 0, 0)), hit(0, 8, 1)}, {times(8, ball), along(of(20, 0, 0), of(1, 0, 0)), api.Hit{}},
		{times(8, flat), along(of(1, 0, 5), of(0, 0, -1)), hit(0, 64, 16)}, {times(8, flat), leaving(0, of(1, 0, 5), of(0, 0, -1)), hit(1, 64, 16)}, {append(row(100), times(8, ball)...), back, hit(1, 8, 1)},
		{nest, back, hit(1, 11, 1)}, {nest, leaving(1, of(20, 0, 0), of(-1, 0, 0)), hit(3, 11, 1)}, {nest, leaving(1, of(9, 0, 0), of(1, 0, 0)), api.Hit{}}, {nest, leaving(1, of(9, 0, 0), of(-1, 0, 0)), hit(2, 2, 1)}, {nest, leaving(3, of(9, 0, 0), of(-1, 0, 0)), hit(2, 2, 1)}, {nest, along(of(6, 0, 0), of(1, 0, 0)), hit(2, 1, 1)}, {nest, along(of(0, 0, 0), of(0, 1, 0)), hit(4, 4, 1)},
		{cross, along(of(0, 1, -3), of(0, 0, 1)), hit(0, 192, 64)}, {cross, along(of(1, 1, -3), of(0, 0, 1)), hit(0, 192, 64)}, {cross, leaving(0, of(1, 1, -3), of(0, 0, 1)), hit(1, 192, 64)}, {cross, along(of(3, 1, -3), of(0, 0, 1)), hit(2, 192, 64)}, {cross, along(of(-3, 1, -3), of(0, 0, 1)), api.Hit{}},
	})
}

// TestTies: P17.1, things at the same fraction, in parts on either side, by the same numbers and by other ones: the lesser index is told.
func TestTies(t *testing.T) {
	left, right := triangle(of(-8, 0, 5), of(0, 0, 5), of(0, 8, 5)), triangle(of(0, 0, 5), of(8, 0, 5), of(0, 8, 5))
	seam := along(of(0, 3, 0), of(0, 0, 1))
	fan := []api.Prim{triangle(of(-40, -9, 5), of(-40, 9, 5), of(0, 0, 5)), triangle(of(40, -9, 5), of(40, 9, 5), of(0, 0, 5)), triangle(of(-9, -40, 5), of(9, -40, 5), of(0, 0, 5)), triangle(of(-9, 40, 5), of(9, 40, 5), of(0, 0, 5))}
	hub := func(index int) api.Ray { return leaving(index, of(0, 0, 0), of(0, 0, 1)) }
	beads := []api.Prim{round(of(0, -5, 0), 5), round(of(0, 5, 0), 5), round(of(0, -90, 0), 5), round(of(0, 90, 0), 5)}
	if built := tree.Build(fan); len(built.Nodes) < 3 {
		t.Fatalf("%v has no parts", built)
	}
	if built := tree.Build(beads); len(built.Nodes) < 3 {
		t.Fatalf("%v has no parts", built)
	}
	see(t, []view{
		{[]api.Prim{left, right}, seam, hit(0, 320, 64)}, {[]api.Prim{right, left}, seam, hit(0, 320, 64)}, {[]api.Prim{sheet(3, 8), sheet(3, 4)}, up(-1), hit(0, 192, 64)}, {[]api.Prim{sheet(3, 4), sheet(3, 8)}, up(-1), hit(0, 48, 16)}, {[]api.Prim{globe(11, 8), sheet(3, 4)}, up(-1), hit(0, 3, 1)}, {[]api.Prim{sheet(3, 4), globe(11, 8)}, up(-1), hit(0, 48, 16)}, {[]api.Prim{globe(-4, 7), sheet(3, 4)}, up(-1), hit(0, 3, 1)},
		{[]api.Prim{left, right, sheet(5, 4)}, seam, hit(0, 320, 64)}, {[]api.Prim{sheet(9, 8), sheet(5, 4), left, right}, seam, hit(1, 80, 16)}, {[]api.Prim{right, left, sheet(5, 4)}, seam, hit(0, 320, 64)}, {[]api.Prim{sheet(5, 4), right, left}, seam, hit(0, 80, 16)},
		{fan, hub(-1), hit(0, 3600, 720)}, {fan, hub(0), hit(1, 3600, 720)}, {fan, hub(1), hit(0, 3600, 720)}, {fan, hub(2), hit(0, 3600, 720)}, {fan, hub(4), hit(0, 3600, 720)}, {fan[1:], hub(0), hit(1, 3600, 720)}, {append(row(200), fan...), hub(1), hit(2, 3600, 720)},
		{beads, along(of(-20, 0, 0), of(1, 0, 0)), hit(0, 20, 1)}, {beads, leaving(0, of(-20, 0, 0), of(1, 0, 0)), hit(1, 20, 1)}, {beads, leaving(2, of(-20, 0, 0), of(1, 0, 0)), hit(0, 20, 1)}, {slices.Concat(beads[1:2], beads[:1]), along(of(-20, 0, 0), of(1, 0, 0)), hit(0, 20, 1)},
	})
}

// TestBegins: P17.1, a ray that begins inside a node's box, on a face, on an edge, and at a corner of one, and one that goes along a face.
func TestBegins(t *testing.T) {
	l := row(0, 50, 100)
	x := of(1, 0, 0)
	see(t, []view{
		{l, along(of(30, 0, 0), x), hit(1, 15, 1)}, {l, along(of(30, 0, 0), of(-1, 0, 0)), hit(0, 25, 1)}, {l, along(of(50, 0, 0), x), hit(1, 5, 1)}, {l, along(of(100, 4, 4), x), api.Hit{}}, {l, along(of(104, 4, 4), of(0, -1, 0)), api.Hit{}},
		{l, along(of(-5, 0, 0), x), hit(0, 10, 1)}, {l, along(of(-5, 0, 0), of(-1, 0, 0)), api.Hit{}}, {l, along(of(45, 0, 0), x), hit(1, 10, 1)}, {l, along(of(55, 0, 0), x), hit(2, 40, 1)}, {l, along(of(105, 0, 0), of(-1, 0, 0)), hit(2, 10, 1)}, {l, along(of(50, 5, 0), of(0, -1, 0)), hit(1, 10, 1)}, {l, along(of(30, 5, 0), x), hit(1, 20, 1)}, {l, along(of(30, 5, 0), of(0, 1, 0)), api.Hit{}},
		{l, along(of(-5, 5, 0), x), hit(0, 5, 1)}, {l, along(of(-5, 5, 0), of(1, -1, 0)), hit(0, 3, 2)}, {l, along(of(45, -5, 0), of(1, 1, 0)), hit(1, 3, 2)}, {l, along(of(105, 5, 0), of(-1, -1, 0)), hit(2, 3, 2)}, {l, along(of(105, 5, 0), of(0, 0, 1)), api.Hit{}}, {l, along(of(105, 5, 0), of(-1, 0, 0)), hit(2, 5, 1)},
		{l, along(of(-5, -5, -5), of(1, 1, 1)), hit(0, 7, 3)}, {l, along(of(105, 5, 5), of(-1, -1, -1)), hit(2, 7, 3)}, {l, along(of(45, 5, -5), of(1, -1, 1)), hit(1, 7, 3)}, {l, along(of(105, 5, 5), of(1, 1, 1)), api.Hit{}}, {l, along(of(-5, -5, -5), of(21, 2, 2)), hit(1, 1070, 449)},
		{l, along(of(-20, 5, 0), x), hit(0, 20, 1)}, {l, along(of(120, -5, 0), of(-1, 0, 0)), hit(2, 20, 1)}, {l, along(of(-20, 0, -5), x), hit(0, 20, 1)}, {l, along(of(-20, 5, 1), x), api.Hit{}}, {l, along(of(-20, 5, 5), x), api.Hit{}}, {l, along(of(-5, -20, 0), of(0, 1, 0)), hit(0, 20, 1)}, {l, along(of(105, 0, 9), of(0, 0, -1)), hit(2, 9, 1)},
		{[]api.Prim{sheet(5, 4), sheet(9, 4)}, along(of(1, 1, 5), of(0, 0, 1)), hit(1, 64, 16)}, {[]api.Prim{sheet(5, 4), sheet(9, 4)}, along(of(1, 1, 9), of(0, 0, -1)), hit(0, 64, 16)}, {[]api.Prim{sheet(5, 4), sheet(9, 4)}, along(of(0, 0, 0), of(0, 0, 1)), hit(0, 80, 16)}, {[]api.Prim{sheet(5, 4), sheet(9, 4)}, along(of(-3, 1, 5), of(1, 0, 0)), api.Hit{}},
		{[]api.Prim{triangle(of(0, 0, 0), of(0, 6, 0), of(0, 0, 6)), triangle(of(9, 0, 0), of(9, 6, 0), of(9, 0, 6))}, along(of(-3, 0, 0), x), hit(0, 108, 36)}, {[]api.Prim{triangle(of(0, 0, 0), of(0, 6, 0), of(0, 0, 6)), triangle(of(9, 0, 0), of(9, 6, 0), of(9, 0, 6))}, along(of(0, 0, 0), x), hit(1, 324, 36)},
	})
}

// TestDirections: P17.1, a direction that is zero along no axis, along one, along two, and along all.
func TestDirections(t *testing.T) {
	l := []api.Prim{round(of(0, 0, 0), 5), round(of(40, 0, 0), 5), round(of(0, 40, 0), 5), round(of(0, 0, 40), 5), round(of(40, 40, 0), 5), round(of(40, 40, 40), 5)}
	see(t, []view{
		{l, along(of(100, 100, 100), of(-1, -1, -1)), hit(5, 172, 3)}, {l, along(of(-20, -20, -20), of(2, 2, 2)), hit(0, 103, 12)}, {l, along(of(100, 100, 99), of(-3, -4, -3)), api.Hit{}},
		{l, along(of(100, 100, 0), of(-1, -1, 0)), hit(4, 113, 2)}, {l, along(of(100, 100, 6), of(-1, -1, 0)), api.Hit{}}, {l, along(of(0, -20, 20), of(0, 1, -1)), hit(0, 33, 2)}, {l, along(of(-20, 0, 60), of(1, 0, -1)), hit(3, 33, 2)}, {l, along(of(-20, 6, 60), of(1, 0, -1)), api.Hit{}},
		{l, along(of(100, 40, 0), of(-2, 0, 0)), hit(4, 110, 4)}, {l, along(of(40, 100, 0), of(0, -3, 0)), hit(4, 165, 9)}, {l, along(of(0, 0, -100), of(0, 0, 1)), hit(0, 95, 1)}, {l, along(of(20, 20, -100), of(0, 0, 1)), api.Hit{}}, {l, along(of(40, 40, 20), of(0, 0, 1)), hit(5, 15, 1)}, {l, along(of(40, 40, 20), of(0, 0, -1)), hit(4, 15, 1)},
		{l, along(of(0, 0, 0), of(0, 0, 0)), api.Hit{}}, {l, along(of(20, 20, 20), of(0, 0, 0)), api.Hit{}}, {l, along(of(5, 5, 5), of(0, 0, 0)), api.Hit{}}, {l, along(of(100, 0, 0), of(0, 0, 0)), api.Hit{}}, {l, leaving(0, of(0, 0, 5), of(0, 0, 0)), api.Hit{}},
	})
}

// TestPassed: P17.1, a ray that does not meet the box of the first node, and one that meets boxes, of leaves too, and nothing in them.
func TestPassed(t *testing.T) {
	l := row(0, 50, 100)
	sheets := []api.Prim{sheet(3, 16), sheet(5, 16), sheet(9, 16), triangle(of(0, 0, 0), of(16, 0, 12), of(0, 16, 12))}
	for _, v := range []struct {
		view
		met int
	}{
		{view{l, along(of(-20, 6, 0), of(1, 0, 0)), api.Hit{}}, 0}, {view{l, along(of(-20, 0, 0), of(-1, 0, 0)), api.Hit{}}, 0}, {view{l, along(of(0, 300, 0), of(1, -1, 0)), api.Hit{}}, 0}, {view{sheets, along(of(17, 0, 20), of(0, 0, -1)), api.Hit{}}, 0},
		{view{l, along(of(25, 0, -20), of(0, 0, 1)), api.Hit{}}, 1}, {view{l, along(of(4, 4, -20), of(0, 0, 1)), api.Hit{}}, 2}, {view{l, along(of(-20, 4, 4), of(1, 0, 0)), api.Hit{}}, 3}, {view{l, along(of(-20, 5, 5), of(1, 0, 0)), api.Hit{}}, 3},
		{view{sheets, along(of(9, 9, 20), of(0, 0, -1)), api.Hit{}}, 3}, {view{sheets, along(of(16, 16, -2), of(0, 0, 1)), api.Hit{}}, 3},
	} {
		see(t, []view{v.view})
		if got := walk.Met(tree.Build(v.l), v.r); got != v.met {
			t.Errorf("%v meets %d boxes, not %d", v.r, got, v.met)
		}
	}
}

// TestLeaves: P17.1, the thing that the ray leaves: a ball from its surface, from inside and from outside, a triangle, and an index that no thing has.
func TestLeaves(t *testing.T) {
	l, x := row(0, 50, 100), of(1, 0, 0)
	globes := []api.Prim{round(of(0, 0, 0), 50), round(of(3, 0, 0), 5), round(of(-30, 0, 0), 5)}
	sheets := []api.Prim{sheet(3, 8), sheet(5, 8), sheet(9, 8)}
	see(t, []view{
		{l, leaving(0, of(5, 0, 0), x), hit(1, 40, 1)}, {l, leaving(0, of(5, 0, 0), of(-1, 0, 0)), hit(0, 10, 1)}, {l, leaving(1, of(55, 0, 0), x), hit(2, 40, 1)}, {l, leaving(1, of(55, 0, 0), of(-1, 0, 0)), hit(1, 10, 1)}, {l, leaving(2, of(105, 0, 0), x), api.Hit{}}, {l, leaving(2, of(95, 0, 0), of(-1, 0, 0)), hit(1, 40, 1)},
		{l, leaving(0, of(3, 4, 0), x), hit(1, 44, 1)}, {l, leaving(0, of(3, 4, 0), of(-3, -4, 0)), hit(0, 50, 25)}, {l, leaving(0, of(3, 4, 0), of(-1, 0, 0)), hit(0, 6, 1)}, {l, leaving(0, of(3, 4, 0), of(4, -3, 0)), api.Hit{}},
		{globes, leaving(0, of(50, 0, 0), of(-1, 0, 0)), hit(1, 42, 1)}, {globes, leaving(0, of(-50, 0, 0), x), hit(2, 15, 1)}, {globes, leaving(0, of(0, 50, 0), of(0, -1, 0)), hit(1, 46, 1)}, {globes, leaving(0, of(20, 0, 0), x), api.Hit{}}, {globes, leaving(1, of(8, 0, 0), x), hit(0, 42, 1)}, {globes, leaving(1, of(8, 0, 0), of(-1, 0, 0)), hit(1, 10, 1)}, {globes, leaving(1, of(6, 0, 0), of(-1, 0, 0)), hit(1, 6, 1)},
		{globes, leaving(0, of(-20, 30, 0), x), hit(0, 40, 1)}, {globes, leaving(0, of(40, 30, 0), of(-1, 0, 0)), hit(0, 80, 1)}, {globes, leaving(1, of(4, 3, 0), of(-1, 0, 0)), hit(1, 2, 1)}, {globes, leaving(1, of(3, 0, 0), x), hit(0, 47, 1)},
		{l, leaving(0, of(100, 100, 0), of(-1, 0, 0)), hit(0, 200, 1)}, {l, leaving(1, of(100, 100, 0), of(-1, 0, 0)), hit(1, 100, 1)}, {l, leaving(0, of(9, 0, 0), of(0, 1, 0)), api.Hit{}}, {l, leaving(0, of(-edge, edge, -edge), of(7, 0, 3)), hit(0, 10485760, 58)},
		{sheets, leaving(0, of(1, 1, 3), of(0, 0, 1)), hit(1, 128, 64)}, {sheets, leaving(0, of(1, 1, 2), of(0, 0, 1)), hit(1, 192, 64)}, {sheets, leaving(1, of(1, 1, 5), of(0, 0, -1)), hit(0, 128, 64)}, {sheets, leaving(2, of(1, 1, 9), of(0, 0, 1)), api.Hit{}}, {sheets, leaving(1, of(1, 1, 2), of(0, 0, 1)), hit(0, 64, 64)}, {sheets[:1], up(0), api.Hit{}},
		{sheets, up(3), hit(0, 192, 64)}, {sheets, up(1 << 32), hit(0, 192, 64)}, {sheets, up(most), hit(0, 192, 64)}, {sheets, up(-1), hit(0, 192, 64)}, {sheets, up(-2), hit(0, 192, 64)}, {sheets, up(least), hit(0, 192, 64)}, {l, leaving(3, of(5, 0, 0), of(-1, 0, 0)), hit(0, 10, 1)}, {l, leaving(-1, of(5, 0, 0), of(-1, 0, 0)), hit(0, 10, 1)}, {l, leaving(-3, of(5, 0, 0), x), hit(1, 40, 1)},
	})
}

// TestLeft: P17.1, a thing that is met only by a ray that leaves another one, or itself, and one that is not met by a ray that leaves it.
func TestLeft(t *testing.T) {
	x := of(1, 0, 0)
	wall := triangle(of(30, -9, -9), of(30, 9, -9), of(30, 0, 9))
	l := []api.Prim{round(of(0, 0, 0), 5), wall}
	see(t, []view{
		{l, leaving(-1, of(-9, 0, 0), x), hit(0, 4, 1)}, {l, leaving(0, of(5, 0, 0), x), hit(1, 8100, 324)}, {l, leaving(1, of(-9, 0, 0), x), hit(0, 4, 1)}, {l, leaving(0, of(3, 0, 0), x), hit(1, 8748, 324)}, {l, leaving(-1, of(3, 0, 0), x), hit(0, 2, 1)}, {l, leaving(1, of(3, 0, 0), x), hit(0, 2, 1)}, {l, leaving(1, of(30, 0, 0), x), api.Hit{}}, {l, leaving(1, of(30, 0, 0), of(-1, 0, 0)), hit(0, 25, 1)},
		{l, leaving(0, of(-40, 9, 0), of(9, 0, 1)), hit(0, 720, 82)}, {l, leaving(-1, of(-40, 0, 6), x), hit(1, 22680, 324)},
		{times(2, wall), leaving(0, of(0, 0, 0), x), hit(1, 9720, 324)}, {times(2, wall), leaving(1, of(0, 0, 0), x), hit(0, 9720, 324)}, {times(1, wall), leaving(0, of(0, 0, 0), x), api.Hit{}},
		{l, leaving(0, of(-9, 60, 0), x), hit(0, 18, 1)}, {l, leaving(-1, of(-9, 60, 0), x), api.Hit{}}, {l, leaving(1, of(-9, 60, 0), x), api.Hit{}},
		{[]api.Prim{sheet(5, 8), round(of(90, 90, 9), 4)}, up(1), hit(0, 320, 64)}, {[]api.Prim{sheet(5, 8), round(of(90, 90, 2), 4)}, up(1), hit(1, 4, 1)}, {[]api.Prim{round(of(90, 90, 2), 4), sheet(4, 4)}, up(0), hit(0, 4, 1)}, {[]api.Prim{sheet(4, 4), round(of(90, 90, 2), 4)}, up(1), hit(0, 64, 16)},
	})
}

// TestAny: P17.1, a limit that is not valid, of 0, below 0, and one less than, the same as, and greater than the closest hit, by the same numbers and by others.
func TestAny(t *testing.T) {
	l := row(0, 50, 100)
	back := along(of(200, 0, 0), of(-2, 0, 0)) // meets the third one at 190/4
	for _, c := range []struct {
		bound api.Frac
		want  bool
	}{
		{api.Frac{}, true}, {fraction(1, 0), true}, {fraction(0, -1), true}, {fraction(-9, -2), true}, {fraction(least, least), true},
		{fraction(0, 1), false}, {fraction(0, 77), false}, {fraction(-1, 1), false}, {fraction(least, 1), false}, {fraction(1, most), false},
		{fraction(189, 4), false}, {fraction(190, 4), false}, {fraction(191, 4), true}, {fraction(95, 2), false}, {fraction(47, 1), false}, {fraction(48, 1), true}, {fraction(190<<40, 4<<40), false}, {fraction(190<<40+1, 4<<40), true}, {fraction(190<<40-1, 4<<40), false}, {fraction(290, 4), true}, {fraction(most, 1), true}, {fraction(most, most), false},
	} {
		before(t, l, back, c.bound, c.want)
		before(t, l, along(of(200, 6, 0), of(-2, 0, 0)), c.bound, false)
		before(t, row(100, 0, 50), back, c.bound, c.want)
	}
	for _, bound := range []api.Frac{{}, fraction(201, 1), fraction(most, 1)} {
		before(t, l, leaving(0, of(100, 100, 0), of(-1, 0, 0)), bound, true)
	}
	for _, bound := range []api.Frac{fraction(200, 1), fraction(199, 1), fraction(0, 1), fraction(-7, 1)} {
		before(t, l, leaving(0, of(100, 100, 0), of(-1, 0, 0)), bound, false)
	}
}
