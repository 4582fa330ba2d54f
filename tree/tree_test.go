package tree_test

import (
	"math"
	"math/rand/v2"
	"slices"
	"testing"

	"skylight/api"
	"skylight/bins"
	"skylight/box"
	"skylight/prim"
	"skylight/tree"
)

const (
	least = math.MinInt
	most  = math.MaxInt
	edge  = 1 << 19 // as far as places go
	thick = 1 << 18 // the greatest radius
	full  = 1024    // as many things as a list may have
)

// of is the vector with these coordinates.
func of(x, y, z int) api.Vec { return api.Vec{X: x, Y: y, Z: z} }

// list holds the coordinates of v.
func list(v api.Vec) [3]int { return [3]int{v.X, v.Y, v.Z} }

// between is the box with these corners.
func between(lo, hi api.Vec) box.Box { return box.Box{Lo: lo, Hi: hi} }

// slab is the box around balls of the radius 5 in a row along X, from the one at first to the one at last.
func slab(first, last int) box.Box { return between(of(first-5, -5, -5), of(last+5, 5, 5)) }

// triangle is the thing with these corners.
func triangle(a, b, c api.Vec) api.Prim { return api.Prim{Kind: 1, A: a, B: b, C: c} }

// round is the ball around c of the radius r.
func round(c api.Vec, r int) api.Prim { return api.Prim{Kind: 2, A: c, R: r} }

// row holds balls of the radius 5 that stand there along X.
func row(places ...int) []api.Prim {
	var l []api.Prim
	for _, x := range places {
		l = append(l, round(of(x, 0, 0), 5))
	}
	return l
}

// leaf is the node of count things, from first on.
func leaf(b box.Box, first, count int) tree.Node {
	return tree.Node{Box: b, First: first, Count: count}
}

// other is the node with two parts, of which the right one is there.
func other(b box.Box, right int) tree.Node { return tree.Node{Box: b, Right: right} }

// single is a tree of one leaf, whose things stand as in order.
func single(b box.Box, order ...int) tree.Tree {
	return tree.Tree{Nodes: []tree.Node{leaf(b, 0, len(order))}, Order: order}
}

// times holds that many of p.
func times(count int, p api.Prim) []api.Prim { return slices.Repeat([]api.Prim{p}, count) }

// with holds l and then more, in a list of its own.
func with(l []api.Prim, more ...api.Prim) []api.Prim { return slices.Concat(l, more) }

// places holds the indices of a list of that length.
func places(length int) []int {
	var all []int
	for place := range length {
		all = append(all, place)
	}
	return all
}

// same tells whether two trees have the same nodes and the same order.
func same(a, b tree.Tree) bool {
	return slices.Equal(a.Nodes, b.Nodes) && slices.Equal(a.Order, b.Order)
}

// copied is a tree of the same nodes and the same order, in lists of its own.
func copied(t tree.Tree) tree.Tree {
	return tree.Tree{Nodes: slices.Clone(t.Nodes), Order: slices.Clone(t.Order)}
}

// broken holds things that are not valid, each but for one thing.
func broken() []api.Prim {
	s, b := triangle(of(0, 0, 0), of(8, 0, 0), of(0, 8, 0)), round(of(1, 1, 9), 8)
	changed := func(p api.Prim, change func(p *api.Prim)) api.Prim {
		change(&p)
		return p
	}
	return []api.Prim{
		{}, changed(s, func(p *api.Prim) { p.Kind = 0 }), changed(b, func(p *api.Prim) { p.Kind = 3 }), changed(s, func(p *api.Prim) { p.Kind = 2 }), changed(b, func(p *api.Prim) { p.Kind = 1 }),
		changed(s, func(p *api.Prim) { p.Mat = 64 }), changed(b, func(p *api.Prim) { p.Mat = -1 }), changed(s, func(p *api.Prim) { p.R = 5 }), changed(b, func(p *api.Prim) { p.R = 3 }), changed(b, func(p *api.Prim) { p.B = of(0, 0, 1) }), changed(b, func(p *api.Prim) { p.C = of(1, 0, 0) }),
		triangle(of(0, 0, 1), of(2, 2, 1), of(1, 1, 1)), triangle(of(0, 0, 1), of(edge+1, 0, 1), of(0, edge+1, 1)), round(of(1, 1, edge+1), thick), round(of(1, 1, 9), thick+1), round(of(least, most, 0), most),
	}
}

// reach holds the lowest and the highest coordinates of a valid thing.
func reach(p api.Prim) (lo, hi [3]int) {
	a, b, c := list(p.A), list(p.B), list(p.C)
	for axis := range 3 {
		if p.Kind == 2 {
			lo[axis], hi[axis] = a[axis]-p.R, a[axis]+p.R
		} else {
			lo[axis], hi[axis] = min(a[axis], b[axis], c[axis]), max(a[axis], b[axis], c[axis])
		}
	}
	return lo, hi
}

// hull is the least box around the things of l with these indices, of which there is one at least.
func hull(l []api.Prim, indices []int) box.Box {
	low, high := reach(l[indices[0]])
	for _, index := range indices {
		lo, hi := reach(l[index])
		for axis := range 3 {
			low[axis], high[axis] = min(low[axis], lo[axis]), max(high[axis], hi[axis])
		}
	}
	return between(of(low[0], low[1], low[2]), of(high[0], high[1], high[2]))
}

// joined is the tree in the box b whose left part is the one tree, and whose right part is the other one.
func joined(b box.Box, left, right tree.Tree) tree.Tree {
	t := tree.Tree{Nodes: []tree.Node{other(b, 1+len(left.Nodes))}, Order: slices.Concat(left.Order, right.Order)}
	for _, n := range left.Nodes {
		if n.Count == 0 {
			n.Right++
		}
		t.Nodes = append(t.Nodes, n)
	}
	for _, n := range right.Nodes {
		if n.Count == 0 {
			n.Right += 1 + len(left.Nodes)
		} else {
			n.First += len(left.Order)
		}
		t.Nodes = append(t.Nodes, n)
	}
	return t
}

// grown is the tree of the things of l with these indices, by the definition.
func grown(l []api.Prim, indices []int) tree.Tree {
	b := hull(l, indices)
	var boxes []box.Box
	for _, index := range indices {
		boxes = append(boxes, prim.Box(l[index]))
	}
	split, ok := bins.Best(boxes)
	if len(indices) < 3 || !ok {
		return single(b, indices...)
	}
	var sides [2][]int
	for place, index := range indices {
		side := 1
		if bins.Left(split, boxes[place]) {
			side = 0
		}
		sides[side] = append(sides[side], index)
	}
	return joined(b, grown(l, sides[0]), grown(l, sides[1]))
}

// maker makes things and trees without a pattern.
type maker struct{ random *rand.Rand }

// made makes them by a number.
func made(number uint64) maker { return maker{rand.New(rand.NewPCG(16, number))} }

// below is a number from -bound to bound.
func (m maker) below(bound int) int { return m.random.IntN(2*bound+1) - bound }

// place is one with coordinates from -bound to bound.
func (m maker) place(bound int) api.Vec {
	return of(m.below(bound), m.below(bound), m.below(bound))
}

// thing is a valid one whose places have coordinates from -bound to bound.
func (m maker) thing(bound int) api.Prim {
	for {
		p := triangle(m.place(bound), m.place(bound), m.place(bound))
		if m.random.IntN(3) == 0 {
			p = round(m.place(bound), 4+m.random.IntN(min(bound, thick-4)+1))
		}
		p.Mat = m.random.IntN(64)
		if prim.Right(p) {
			return p
		}
	}
}

// things holds that many, of which some stand there twice.
func (m maker) things(count, bound int) []api.Prim {
	var l []api.Prim
	for range count {
		if len(l) > 0 && m.random.IntN(6) == 0 {
			l = append(l, l[m.random.IntN(len(l))])
			continue
		}
		l = append(l, m.thing(bound))
	}
	return l
}

// crowds holds lists of every size, with little room and with much of it.
func crowds() [][]api.Prim {
	var all [][]api.Prim
	for _, bound := range []int{2, 5, 30, 1000, edge} {
		m := made(uint64(bound))
		for count := range 20 {
			for range 12 {
				all = append(all, m.things(1+count, bound))
			}
		}
		all = append(all, m.things(100, bound), m.things(333, bound))
	}
	return all
}

// apart holds balls of which each one is twice as far away as the one before it.
func apart(count int) []api.Prim {
	var l []api.Prim
	for index := range count {
		l = append(l, round(of(0, -(4<<index), 0), 4))
	}
	return l
}

// TestBuild: P16.1, by cases: no thing, one, two, three and more, in the order of their places and in another one.
func TestBuild(t *testing.T) {
	pair := []api.Prim{triangle(of(0, 0, 0), of(4, 0, 1), of(0, 4, 2)), round(of(9, -9, 9), 4)}
	for _, c := range []struct {
		l    []api.Prim
		want tree.Tree
	}{
		{nil, tree.Tree{}},
		{[]api.Prim{}, tree.Tree{}},
		{row(0), single(slab(0, 0), 0)}, // the chapter's example
		{pair[:1], single(between(of(0, 0, 0), of(4, 4, 2)), 0)},
		{pair[1:], single(between(of(5, -13, 5), of(13, -5, 13)), 0)},
		{pair, single(between(of(0, -13, 0), of(13, 4, 13)), 0, 1)},
		{row(-edge, edge), single(slab(-edge, edge), 0, 1)},
		{row(edge, -edge), single(slab(-edge, edge), 0, 1)},
		{row(0, 50, 100), tree.Tree{Nodes: []tree.Node{other(slab(0, 100), 2), leaf(slab(0, 0), 0, 1), leaf(slab(50, 100), 1, 2)}, Order: []int{0, 1, 2}}},
		{row(100, 0, 50), tree.Tree{Nodes: []tree.Node{other(slab(0, 100), 2), leaf(slab(0, 0), 0, 1), leaf(slab(50, 100), 1, 2)}, Order: []int{1, 0, 2}}},
		{row(0, 10, 100), tree.Tree{Nodes: []tree.Node{other(slab(0, 100), 2), leaf(slab(0, 10), 0, 2), leaf(slab(100, 100), 2, 1)}, Order: []int{0, 1, 2}}},
		{row(100, 10, 0), tree.Tree{Nodes: []tree.Node{other(slab(0, 100), 2), leaf(slab(0, 10), 0, 2), leaf(slab(100, 100), 2, 1)}, Order: []int{1, 2, 0}}},
		{row(-30, 10, 0, -40), tree.Tree{Nodes: []tree.Node{other(slab(-40, 10), 2), leaf(slab(-40, -30), 0, 2), leaf(slab(0, 10), 2, 2)}, Order: []int{0, 3, 1, 2}}},
		{row(1010, 0, 1000, 20, 1020, 10), tree.Tree{Nodes: []tree.Node{
			other(slab(0, 1020), 4),
			other(slab(0, 20), 3), leaf(slab(0, 0), 0, 1), leaf(slab(10, 20), 1, 2),
			other(slab(1000, 1020), 6), leaf(slab(1000, 1000), 3, 1), leaf(slab(1010, 1020), 4, 2),
		}, Order: []int{1, 3, 5, 2, 0, 4}}},
		{row(0, 10, 1000, 1010, 500000, 1020), tree.Tree{Nodes: []tree.Node{
			other(slab(0, 500000), 6),
			other(slab(0, 1020), 3), leaf(slab(0, 10), 0, 2),
			other(slab(1000, 1020), 5), leaf(slab(1000, 1000), 2, 1), leaf(slab(1010, 1020), 3, 2),
			leaf(slab(500000, 500000), 5, 1),
		}, Order: []int{0, 1, 2, 3, 5, 4}}},
	} {
		if got := tree.Build(c.l); !same(got, c.want) {
			t.Errorf("the tree of %v is %v, not %v", c.l, got, c.want)
		}
	}
}

// TestBuildAlike: P16.1, things of which no split is told are one leaf, however many there are: all about one middle, or all the same.
func TestBuildAlike(t *testing.T) {
	flat := triangle(of(2, 2, 2), of(-2, -2, 2), of(2, -2, -2))
	corner := triangle(of(-2, 2, -2), of(2, 2, 2), of(-2, -2, 2))
	for _, c := range []struct {
		l    []api.Prim
		want box.Box
	}{
		{[]api.Prim{round(of(7, 8, 9), 5), round(of(7, 8, 9), 6), round(of(7, 8, 9), 4)}, between(of(1, 2, 3), of(13, 14, 15))},
		{[]api.Prim{flat, corner, round(api.Vec{}, 4)}, between(of(-4, -4, -4), of(4, 4, 4))},
		{[]api.Prim{flat, corner, corner, flat}, between(of(-2, -2, -2), of(2, 2, 2))},
		{times(3, flat), between(of(-2, -2, -2), of(2, 2, 2))},
		{times(9, round(of(0, 0, 5), 5)), between(of(-5, -5, 0), of(5, 5, 10))},
		{times(full, round(of(edge, edge, -edge), thick)), between(of(thick, thick, -edge-thick), of(edge+thick, edge+thick, -thick))},
	} {
		if got := tree.Build(c.l); !same(got, single(c.want, places(len(c.l))...)) {
			t.Errorf("the tree of %d things, from %v on, is %v", len(c.l), c.l[0], got)
		}
	}
	both := row(90, 0, 90, 0, 0, 90, 90)
	want := tree.Tree{Nodes: []tree.Node{other(slab(0, 90), 2), leaf(slab(0, 0), 0, 3), leaf(slab(90, 90), 3, 4)}, Order: []int{1, 3, 4, 0, 2, 5, 6}}
	if got := tree.Build(both); !same(got, want) {
		t.Errorf("the tree of things at two places is %v, not %v", got, want)
	}
}

// TestBuildStrays: P16.1, there is no tree if a thing is not valid, wherever in the list it is; what is beyond the list's length does not count.
func TestBuildStrays(t *testing.T) {
	l := row(0, 10, 1000)
	none := func(l []api.Prim) {
		t.Helper()
		if got := tree.Build(l); len(got.Nodes) > 0 || len(got.Order) > 0 {
			t.Errorf("the tree of %v is %v", l, got)
		}
	}
	for _, stray := range broken() {
		none([]api.Prim{stray})
		none([]api.Prim{stray, stray})
		none(times(full, stray))
		none(with(row(slices.Repeat([]int{9}, full-1)...), stray))
		for place := range len(l) + 1 {
			none(slices.Insert(slices.Clone(l), place, stray))
		}
		if got := tree.Build(with(l, stray)[:len(l)]); !same(got, grown(l, places(len(l)))) {
			t.Errorf("with %v beyond the list's length, the tree is %v", stray, got)
		}
	}
	none(broken())
}

// TestBuildMany: P16.1, exactly as many things as there may be, and one more.
func TestBuildMany(t *testing.T) {
	m := made(100)
	for _, l := range [][]api.Prim{m.things(full, 9), m.things(full, 1000), m.things(full, edge), times(full, row(7)[0])} {
		for _, count := range []int{full - 1, full} {
			if got := tree.Build(l[:count]); !same(got, grown(l, places(count))) {
				t.Errorf("the tree of %d things is %v", count, got)
			}
		}
		for _, more := range [][]api.Prim{with(l, l[0]), with(l, l...)} {
			if got := tree.Build(more); len(got.Nodes) > 0 || len(got.Order) > 0 {
				t.Errorf("the tree of %d things is %v", len(more), got)
			}
		}
	}
}

// TestBuildWide: P16.1, lists of every size, against the definition; the list stays as it is, and the tree is in memory of its own.
func TestBuildWide(t *testing.T) {
	var deepest int
	sizes := map[int]int{}
	for _, l := range append(crowds(), apart(3), apart(10), apart(18)) {
		before, want := slices.Clone(l), grown(l, places(len(l)))
		got := tree.Build(l)
		if !same(got, want) {
			t.Fatalf("the tree of %v is %v, not %v", l, got, want)
		}
		if !slices.Equal(l, before) {
			t.Fatalf("Build changed %v to %v", before, l)
		}
		clear(got.Nodes)
		clear(got.Order)
		if again := tree.Build(l); !same(again, want) {
			t.Fatalf("after a tree of %v was cleared, another one is %v, not %v", l, again, want)
		}
		deepest = max(deepest, tree.Depth(want))
		for _, n := range want.Nodes {
			sizes[min(n.Count, 3)]++
		}
	}
	if deepest < 9 || min(sizes[0], sizes[1], sizes[2], sizes[3]) < 50 {
		t.Errorf("the deepest tree has the depth %d, and the nodes have %v things", deepest, sizes)
	}
}

// TestBuildIndices: P16.1, each leaf has its indices in their order, and each index stands in the order once.
func TestBuildIndices(t *testing.T) {
	for _, l := range crowds() {
		got := tree.Build(l)
		for place, n := range got.Nodes {
			if n.Count > 0 {
				if own := got.Order[n.First : n.First+n.Count]; !slices.IsSorted(own) {
					t.Fatalf("of %v, the leaf %d has %v", l, place, own)
				}
			}
		}
		if all := slices.Sorted(slices.Values(got.Order)); !slices.Equal(all, places(len(l))) {
			t.Fatalf("of %v, the order is %v", l, got.Order)
		}
	}
}

// spoiled holds the trees that differ from t in one number of one node, which is changed by each of these; whether it is one of the node's box is told.
func spoiled(t tree.Tree, by []int, see func(spoiled tree.Tree, inBox bool)) {
	for place := range t.Nodes {
		for number := range 9 {
			for _, change := range by {
				bad := copied(t)
				n := &bad.Nodes[place]
				*[]*int{&n.Box.Lo.X, &n.Box.Lo.Y, &n.Box.Lo.Z, &n.Box.Hi.X, &n.Box.Hi.Y, &n.Box.Hi.Z, &n.First, &n.Count, &n.Right}[number] += change
				see(bad, number < 6)
			}
		}
	}
}

// TestBuildWhole: P16.3, a tree that is built is whole, has fewer nodes than twice its things, and is not whole with another number in one of its nodes.
func TestBuildWhole(t *testing.T) {
	m, tried := made(200), 0
	lists := append(crowds(), row(0), row(0, 9), row(0, 50, 100), apart(18), times(5, row(7)[0]), m.things(full, 300), m.things(full, edge), times(full, row(7)[0]))
	for _, l := range lists {
		built := tree.Build(l)
		if !tree.Whole(built, l) || !tree.Ordered(built) || len(built.Nodes) >= 2*len(l) || len(built.Nodes) == 0 {
			t.Fatalf("of %v, the tree has %d nodes, and is whole: %t", l, len(built.Nodes), tree.Whole(built, l))
		}
		// The more nodes there are, the more of them are like others.
		if len(l) > 20 || len(l) > 8 && m.random.IntN(8) > 0 {
			continue
		}
		spoiled(built, []int{1, -1, 2 + m.random.IntN(9), -2 - m.random.IntN(9), 1 << 32, least, most}, func(bad tree.Tree, inBox bool) {
			tried++
			if tree.Whole(bad, l) {
				t.Fatalf("the tree of %v is %v, but %v is whole, too", l, built, bad)
			}
			if tree.Ordered(bad) != inBox {
				t.Fatalf("the tree of %v is %v, but %v is ordered: %t", l, built, bad, !inBox)
			}
		})
	}
	if got := tree.Build(nil); !tree.Whole(got, nil) {
		t.Errorf("the tree of nothing, %v, is not whole", got)
	}
	if tried < 100000 {
		t.Errorf("%d trees were tried", tried)
	}
}
