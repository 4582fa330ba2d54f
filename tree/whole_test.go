package tree_test

import (
	"slices"
	"testing"

	"skylight/api"
	"skylight/box"
	"skylight/tree"
)

// yes asks whether a tree is whole, as it must be.
func yes(t *testing.T, x tree.Tree, l []api.Prim) {
	t.Helper()
	if !tree.Whole(x, l) {
		t.Fatalf("%v is not a whole tree of %v", x, l)
	}
}

// no asks whether a tree is whole, as it must not be.
func no(t *testing.T, x tree.Tree, l []api.Prim) {
	t.Helper()
	if tree.Whole(x, l) {
		t.Fatalf("%v is a whole tree of %v", x, l)
	}
}

// filled is a tree of any shape whose leaves have the things with these indices, in this order.
func (m maker) filled(l []api.Prim, order []int) tree.Tree {
	if len(order) == 1 || m.random.IntN(4) == 0 {
		return single(hull(l, order), order...)
	}
	at := 1 + m.random.IntN(len(order)-1)
	return joined(hull(l, order), m.filled(l, order[:at]), m.filled(l, order[at:]))
}

// trio is a tree of the things of three: the second one in the left part, and the others in the right one.
func trio() (tree.Tree, []api.Prim) {
	return tree.Tree{Nodes: []tree.Node{other(slab(0, 100), 2), leaf(slab(0, 0), 0, 1), leaf(slab(50, 100), 1, 2)}, Order: []int{1, 0, 2}}, row(100, 0, 50)
}

// TestWhole: P16.2, trees that are whole, by cases: of nothing, of one thing, one that is built, and others of the same things.
func TestWhole(t *testing.T) {
	yes(t, tree.Tree{}, nil)
	yes(t, tree.Tree{Nodes: []tree.Node{}, Order: []int{}}, []api.Prim{})
	yes(t, single(slab(7, 7), 0), row(7))
	x, l := trio()
	yes(t, x, l)
	if built := tree.Build(l); !same(built, x) {
		t.Errorf("the tree of %v is %v", l, built)
	}
	for _, order := range [][]int{{0, 1, 2}, {0, 2, 1}, {1, 0, 2}, {1, 2, 0}, {2, 0, 1}, {2, 1, 0}} {
		yes(t, single(slab(0, 100), order...), l)
	}
	for _, nodes := range [][]tree.Node{
		{other(slab(0, 100), 2), leaf(slab(50, 100), 0, 2), leaf(slab(0, 0), 2, 1)},
		{other(slab(0, 100), 2), leaf(slab(100, 100), 0, 1), leaf(slab(0, 50), 1, 2)},
		{other(slab(0, 100), 4), other(slab(50, 100), 3), leaf(slab(100, 100), 0, 1), leaf(slab(50, 50), 1, 1), leaf(slab(0, 0), 2, 1)},
		{other(slab(0, 100), 2), leaf(slab(100, 100), 0, 1), other(slab(0, 50), 4), leaf(slab(50, 50), 1, 1), leaf(slab(0, 0), 2, 1)},
	} {
		yes(t, tree.Tree{Nodes: nodes, Order: []int{0, 2, 1}}, l)
	}
	yes(t, tree.Tree{Nodes: []tree.Node{other(slab(0, 100), 2), leaf(slab(0, 100), 0, 2), leaf(slab(50, 50), 2, 1)}, Order: []int{1, 0, 2}}, l)
}

// TestWholeNothing: P16.2, no nodes of things that are there, and nodes of none; neither are nodes or an order alone a tree.
func TestWholeNothing(t *testing.T) {
	no(t, tree.Tree{}, row(0))
	no(t, tree.Tree{}, row(0, 1, 2))
	no(t, tree.Tree{Order: []int{0}}, nil)
	no(t, tree.Tree{Order: []int{0}}, row(0))
	no(t, tree.Tree{Nodes: []tree.Node{leaf(slab(0, 0), 0, 1)}}, row(0))
	no(t, tree.Tree{Nodes: []tree.Node{leaf(slab(0, 0), 0, 0)}}, nil)
	no(t, tree.Tree{Nodes: make([]tree.Node, 1)}, nil)
	no(t, tree.Tree{Nodes: make([]tree.Node, 1)}, row(0))
	no(t, single(slab(0, 0), 0), nil)
	no(t, single(box.Box{}, 0), nil)
}

// TestWholeThings: P16.2, a tree of other things, of fewer, and of more; things whose boxes are the same are as good.
func TestWholeThings(t *testing.T) {
	x, l := trio()
	no(t, x, l[:2])
	no(t, x, l[1:])
	no(t, x, nil)
	no(t, x, with(l, l[0]))
	no(t, x, with(l[:1], l...))
	no(t, x, with(l, l...))
	no(t, x, row(0, 100, 50))
	no(t, x, row(100, 50, 0))
	no(t, x, row(100, 0, 49))
	no(t, x, row(101, 0, 50))
	no(t, x, row(100, 1, 50))
	no(t, x, with(l[:2], round(of(50, 0, 0), 6)))
	no(t, x, with(l[:2], round(of(50, 0, 1), 5)))
	yes(t, x, row(50, 0, 100))
	yes(t, x, []api.Prim{l[0], l[1], triangle(of(45, -5, -5), of(55, 5, -5), of(45, 0, 5))})
	no(t, x, []api.Prim{l[0], l[1], triangle(of(44, -5, -5), of(55, 5, -5), of(45, 0, 5))})
	l[2].Mat = 63
	yes(t, x, l)
}

// TestWholeOrder: P16.2, an order that has an index twice, one below 0, one that is not there, too few or too many, though all boxes are the least ones.
func TestWholeOrder(t *testing.T) {
	l := times(3, row(7)[0])
	yes(t, single(slab(7, 7), 2, 0, 1), l)
	for _, order := range [][]int{
		{0, 0, 1}, {0, 1, 1}, {2, 1, 2}, {0, 0, 0}, {2, 2, 2}, {1, 2, 1},
		{0, 1, 3}, {3, 1, 2}, {0, 1, 1 << 32}, {0, 1, 1<<32 + 2}, {0, 1, most}, {most, most, most},
		{0, 1, -1}, {-1, 1, 2}, {0, 1, -2}, {0, 1, -1 << 32}, {0, 1, least}, {least, least, least}, {-1, -2, -3}, {1, 2, 3},
		{0, 1}, {0}, {1, 2}, {2, 1}, {0, 1, 2, 0}, {0, 1, 2, 2}, {0, 1, 2, 3}, {0, 1, 2, -1}, {-1, 0, 1, 2}, {0, 1, 2, 0, 1, 2},
	} {
		no(t, single(slab(7, 7), order...), l)
	}
	x, l := trio()
	for _, order := range [][]int{{0, 1, 2}, {2, 1, 0}, {1, 1, 2}, {1, 0, 0}, {1, 2, 2}, {1, 0, 3}, {1, 0, -1}} {
		x.Order = order
		no(t, x, l)
	}
	x.Order = []int{1, 2, 0}
	yes(t, x, l)
}

// TestWholeBox: P16.2, a box of a leaf and of another node that is greater, less, moved, or of no kind.
func TestWholeBox(t *testing.T) {
	x, l := trio()
	for place := range x.Nodes {
		bad, b := copied(x), x.Nodes[place].Box
		boxes := []box.Box{box.Grow(b, 1), box.Grow(b, 2), between(of(b.Lo.X+1, -4, -4), of(b.Hi.X-1, 4, 4))}
		for _, by := range []int{1, -1} {
			for axis := range 3 {
				var more [3]int
				more[axis] = by
				at := func(v api.Vec) api.Vec { return of(v.X+more[0], v.Y+more[1], v.Z+more[2]) }
				boxes = append(boxes, between(at(b.Lo), b.Hi), between(b.Lo, at(b.Hi)), between(at(b.Lo), at(b.Hi)))
			}
		}
		boxes = append(boxes, box.Box{}, between(b.Hi, b.Lo), slab(0, 99), between(b.Lo, b.Lo), between(of(least, least, least), of(most, most, most)))
		for _, wrong := range boxes {
			bad.Nodes[place].Box = wrong
			no(t, bad, l)
		}
		bad.Nodes[place].Box = b
		yes(t, bad, l)
	}
	// All boxes are greater alike, or the lower ones are exchanged.
	for _, boxes := range [][3]box.Box{{slab(-1, 101), slab(-1, 0), slab(50, 101)}, {slab(0, 100), slab(0, 100), slab(0, 100)}, {slab(0, 100), slab(50, 100), slab(0, 0)}, {slab(0, 99), slab(0, 0), slab(50, 99)}} {
		for place, b := range boxes {
			x.Nodes[place].Box = b
		}
		no(t, x, l)
	}
}

// TestWholeStrays: P16.2, a thing that is not valid, alone and among others, whichever box its node has; what is beyond the list's length does not count.
func TestWholeStrays(t *testing.T) {
	x, l := trio()
	for _, stray := range broken() {
		no(t, single(box.Box{}, 0), []api.Prim{stray})
		no(t, single(slab(0, 0), 0), []api.Prim{stray})
		no(t, single(hull([]api.Prim{stray}, []int{0}), 0), []api.Prim{stray})
		no(t, tree.Tree{}, []api.Prim{stray})
		no(t, single(slab(0, 0), 1, 0), []api.Prim{row(0)[0], stray})
		for place := range l {
			bad := slices.Clone(l)
			bad[place] = stray
			no(t, x, bad)
			no(t, single(slab(0, 100), 0, 1, 2), bad)
		}
		no(t, x, with(l, stray))
		yes(t, x, with(l, stray)[:len(l)])
	}
}

// TestWholeNumbers: P16.2, trees whose numbers are not those of ordered ones, though the boxes and the order are as they must be.
func TestWholeNumbers(t *testing.T) {
	x, l := trio()
	spoiled(x, []int{1, -1, 2, -2, 3, -3, 4, -4, 1 << 32, -1 << 32, least, most}, func(bad tree.Tree, inBox bool) { no(t, bad, l) })
	for _, more := range []tree.Node{{}, x.Nodes[2], leaf(slab(0, 100), 3, 1), leaf(slab(0, 100), 3, 0)} {
		no(t, tree.Tree{Nodes: append(slices.Clone(x.Nodes), more), Order: x.Order}, l)
	}
	no(t, tree.Tree{Nodes: x.Nodes[:2], Order: x.Order}, l)
	no(t, tree.Tree{Nodes: x.Nodes[:1], Order: x.Order}, l)
	no(t, tree.Tree{Nodes: x.Nodes[1:], Order: x.Order}, l)
	no(t, tree.Tree{Nodes: []tree.Node{x.Nodes[0], x.Nodes[2], x.Nodes[1]}, Order: x.Order}, l)
}

// TestWholeMany: P16.2, which does not ask how many things there are: as many as a tree may be built of, and more.
func TestWholeMany(t *testing.T) {
	m := made(400)
	for _, count := range []int{full - 1, full, full + 1, 3 * full} {
		l := m.things(count, 500)
		order := m.random.Perm(count)
		x := m.filled(l, order)
		yes(t, x, l)
		yes(t, single(hull(l, order), order...), l)
		x.Order[count/2] = x.Order[count/3]
		no(t, x, l)
	}
}

// exchanged tells whether x is still a tree with the least boxes if the indices at two places of its order are exchanged.
func exchanged(x tree.Tree, l []api.Prim, first, second int) bool {
	order := slices.Clone(x.Order)
	order[first], order[second] = order[second], order[first]
	// From the last node back, each one's things end where those of its right part do.
	ends := make([]int, len(x.Nodes))
	begins := make([]int, len(x.Nodes))
	for place, n := range slices.Backward(x.Nodes) {
		begins[place], ends[place] = n.First, n.First+n.Count
		if n.Count == 0 {
			begins[place], ends[place] = begins[place+1], ends[n.Right]
		}
		if n.Box != hull(l, order[begins[place]:ends[place]]) {
			return false
		}
	}
	return true
}

// TestWholeWide: P16.2, trees of any shape, of things of every size in any order, and the same after two indices were exchanged, against the definition; neither argument is changed.
func TestWholeWide(t *testing.T) {
	m, still, changed := made(500), 0, 0
	for _, l := range crowds() {
		for range 3 {
			x := m.filled(l, m.random.Perm(len(l)))
			before, things := copied(x), slices.Clone(l)
			yes(t, x, l)
			if !same(x, before) || !slices.Equal(l, things) {
				t.Fatalf("Whole changed %v of %v to %v of %v", before, things, x, l)
			}
			first, second := m.random.IntN(len(l)), m.random.IntN(len(l))
			want := exchanged(x, l, first, second)
			x.Order[first], x.Order[second] = x.Order[second], x.Order[first]
			if got := tree.Whole(x, l); got != want {
				t.Fatalf("%v is a whole tree of %v: %t", x, l, got)
			}
			if !want {
				changed++
			} else if first != second {
				still++
			}
		}
	}
	if min(still, changed) < 300 {
		t.Errorf("%d trees are whole after indices were exchanged, and %d are not", still, changed)
	}
}

// TestWholeSpoiled: P16.2, P16.3, trees of any shape are not whole with another number in one of their nodes.
func TestWholeSpoiled(t *testing.T) {
	m, tried := made(600), 0
	for range 100 {
		l := m.things(1+m.random.IntN(9), 20)
		x := m.filled(l, m.random.Perm(len(l)))
		spoiled(x, []int{1, -1, 2 + m.random.IntN(30), least, most}, func(bad tree.Tree, inBox bool) {
			tried++
			no(t, bad, l)
		})
	}
	if tried < 10000 {
		t.Errorf("%d trees were tried", tried)
	}
}
