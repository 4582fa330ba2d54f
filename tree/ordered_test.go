package tree_test

import (
	"slices"
	"testing"

	"skylight/tree"
)

// numbers are those of a node without a box: First, Count and Right.
type numbers [3]int

// bare is the tree of nodes without boxes, with an order of that length.
func bare(length int, nodes ...numbers) tree.Tree {
	t := tree.Tree{Order: places(length)}
	for _, n := range nodes {
		t.Nodes = append(t.Nodes, tree.Node{First: n[0], Count: n[1], Right: n[2]})
	}
	return t
}

// examine asks whether a tree is ordered, how deep it is, and how many leaves it has: 0 and 0 if it is not ordered.
func examine(t *testing.T, x tree.Tree, ordered bool, depth, leaves int) {
	t.Helper()
	before := copied(x)
	if got := tree.Ordered(x); got != ordered {
		t.Fatalf("%v is ordered: %t", x, got)
	}
	if got := tree.Depth(x); got != depth {
		t.Fatalf("%v has the depth %d, not %d", x, got, depth)
	}
	if got := tree.Leaves(x); got != leaves {
		t.Fatalf("%v has %d leaves, not %d", x, got, leaves)
	}
	if !same(x, before) {
		t.Fatalf("%v was changed to %v", before, x)
	}
}

// count is what is found from a node on: the place behind the last node of its part, the one in the order behind the last thing, the depth and the leaves.
type count struct{ place, thing, depth, leaves int }

// counted goes through the part that begins at the place, whose things begin there, by the definition.
func counted(x tree.Tree, place, thing int) (count, bool) {
	if place < 0 || place >= len(x.Nodes) {
		return count{}, false
	}
	n := x.Nodes[place]
	if n.Count >= 1 && n.Right == 0 {
		return count{place + 1, thing + n.Count, 1, 1}, n.First == thing && n.Count <= len(x.Order)
	}
	if n.Count != 0 || n.First != 0 {
		return count{}, false
	}
	left, ok := counted(x, place+1, thing)
	if !ok || n.Right != left.place {
		return count{}, false
	}
	right, ok := counted(x, n.Right, left.thing)
	return count{right.place, right.thing, 1 + max(left.depth, right.depth), left.leaves + right.leaves}, ok
}

// whether asks examine by the definition.
func whether(t *testing.T, x tree.Tree) bool {
	t.Helper()
	found, ok := counted(x, 0, 0)
	if len(x.Nodes) == 0 {
		ok = len(x.Order) == 0
	}
	if !ok || found.place != len(x.Nodes) || found.thing != len(x.Order) {
		examine(t, x, false, 0, 0)
		return false
	}
	examine(t, x, true, found.depth, found.leaves)
	return true
}

// TestOrdered: P16.1, trees that are ordered, by cases: without nodes, of one, of left parts alone, of right parts alone, and of both.
func TestOrdered(t *testing.T) {
	examine(t, tree.Tree{}, true, 0, 0)
	examine(t, tree.Tree{Nodes: []tree.Node{}, Order: []int{}}, true, 0, 0)
	examine(t, bare(1, numbers{0, 1, 0}), true, 1, 1)
	examine(t, bare(7, numbers{0, 7, 0}), true, 1, 1)
	examine(t, bare(2000, numbers{0, 2000, 0}), true, 1, 1)
	examine(t, bare(2, numbers{0, 0, 2}, numbers{0, 1, 0}, numbers{1, 1, 0}), true, 2, 2)
	examine(t, bare(9, numbers{0, 0, 2}, numbers{0, 5, 0}, numbers{5, 4, 0}), true, 2, 2)
	examine(t, bare(6, numbers{0, 0, 4}, numbers{0, 0, 3}, numbers{0, 1, 0}, numbers{1, 2, 0}, numbers{3, 3, 0}), true, 3, 3)
	examine(t, bare(6, numbers{0, 0, 2}, numbers{0, 3, 0}, numbers{0, 0, 4}, numbers{3, 2, 0}, numbers{5, 1, 0}), true, 3, 3)
	examine(t, bare(4, numbers{0, 0, 4}, numbers{0, 0, 3}, numbers{0, 1, 0}, numbers{1, 1, 0}, numbers{0, 0, 6}, numbers{2, 1, 0}, numbers{3, 1, 0}), true, 3, 4)
	examine(t, bare(4, numbers{0, 0, 6}, numbers{0, 0, 3}, numbers{0, 1, 0}, numbers{0, 0, 5}, numbers{1, 1, 0}, numbers{2, 1, 0}, numbers{3, 1, 0}), true, 4, 4)
	examine(t, bare(4, numbers{0, 0, 2}, numbers{0, 1, 0}, numbers{0, 0, 6}, numbers{0, 0, 5}, numbers{1, 1, 0}, numbers{2, 1, 0}, numbers{3, 1, 0}), true, 4, 4)
}

// TestOrderedNot: P16.1, trees that are not ordered, by cases: nodes or an order alone, numbers of neither a leaf nor another node, parts that stand elsewhere or are missing, and things that overlap, leave a gap, or do not end with the order.
func TestOrderedNot(t *testing.T) {
	no := func(length int, nodes ...numbers) {
		t.Helper()
		examine(t, bare(length, nodes...), false, 0, 0)
	}
	no(1)
	no(9)
	no(0, numbers{0, 1, 0})
	no(0, numbers{0, 0, 0})
	no(1, numbers{0, 0, 0})
	no(0, numbers{0, -1, 0})
	no(1, numbers{0, -1, 0})
	for _, right := range []int{1, -1, 2, 7, least, most} {
		no(1, numbers{0, 1, right})
		no(1, numbers{0, 0, right})
		no(0, numbers{0, 0, right})
		no(2, numbers{0, 0, 2}, numbers{0, 1, right}, numbers{1, 1, 0})
		no(2, numbers{0, 0, 2}, numbers{0, 1, 0}, numbers{1, 1, right})
		no(2, numbers{0, 0, 2}, numbers{0, 0, right}, numbers{1, 1, 0})
		no(2, numbers{0, 0, 2}, numbers{0, 1, 0}, numbers{0, 0, right})
	}
	for _, right := range []int{0, 1, 3, -1, -2, 4, 1<<32 + 2, least, most} {
		no(2, numbers{0, 0, right}, numbers{0, 1, 0}, numbers{1, 1, 0})
	}
	for _, right := range []int{0, 1, 2, 4, 5, -1, -3, 1<<32 + 3, least, most} {
		no(3, numbers{0, 0, 4}, numbers{0, 0, right}, numbers{0, 1, 0}, numbers{1, 1, 0}, numbers{2, 1, 0})
	}
	for _, right := range []int{0, 1, 2, 3, 5, 6, -1, -4, 1<<32 + 4, least, most} {
		no(3, numbers{0, 0, 2}, numbers{0, 1, 0}, numbers{0, 0, right}, numbers{1, 1, 0}, numbers{2, 1, 0})
		no(3, numbers{0, 0, right}, numbers{0, 0, 3}, numbers{0, 1, 0}, numbers{1, 1, 0}, numbers{2, 1, 0})
	}
	for _, number := range []int{1, -1, 2, 3, -3, least, most} {
		no(2, numbers{number, 0, 2}, numbers{0, 1, 0}, numbers{1, 1, 0})
		no(2, numbers{0, number, 2}, numbers{0, 1, 0}, numbers{1, 1, 0})
		no(3, numbers{0, 0, 4}, numbers{number, 0, 3}, numbers{0, 1, 0}, numbers{1, 1, 0}, numbers{2, 1, 0})
		no(3, numbers{0, 0, 2}, numbers{0, 1, 0}, numbers{0, number, 4}, numbers{1, 1, 0}, numbers{2, 1, 0})
		no(3, numbers{0, 0, 2}, numbers{0, 1, 0}, numbers{number, 0, 4}, numbers{1, 1, 0}, numbers{2, 1, 0})
	}
}

// TestOrderedParts: P16.1, nodes behind the last one that is visited, and parts that are missing.
func TestOrderedParts(t *testing.T) {
	no := func(length int, nodes ...numbers) {
		t.Helper()
		examine(t, bare(length, nodes...), false, 0, 0)
	}
	no(1, numbers{0, 1, 0}, numbers{0, 1, 0})
	no(2, numbers{0, 1, 0}, numbers{1, 1, 0})
	no(2, numbers{0, 2, 0}, numbers{0, 0, 0})
	no(1, numbers{0, 1, 0}, numbers{0, 0, 0})
	no(3, numbers{0, 0, 2}, numbers{0, 1, 0}, numbers{1, 1, 0}, numbers{2, 1, 0})
	no(2, numbers{0, 0, 2}, numbers{0, 1, 0}, numbers{1, 1, 0}, numbers{2, 1, 0})
	no(2, numbers{0, 0, 2}, numbers{0, 1, 0}, numbers{1, 1, 0}, numbers{0, 0, 0})
	no(2, numbers{0, 0, 3}, numbers{0, 1, 0}, numbers{0, 0, 0}, numbers{1, 1, 0})
	no(0, numbers{0, 0, 1})
	no(0, numbers{0, 0, 2})
	no(1, numbers{0, 0, 2}, numbers{0, 1, 0})
	no(1, numbers{0, 0, 1}, numbers{0, 1, 0})
	no(2, numbers{0, 0, 2}, numbers{0, 1, 0}, numbers{0, 0, 4}, numbers{1, 1, 0})
	no(2, numbers{0, 0, 4}, numbers{0, 0, 3}, numbers{0, 1, 0}, numbers{1, 1, 0})
	no(1, numbers{0, 0, 2}, numbers{0, 1, 0}, numbers{0, 0, 4})
	no(0, numbers{0, 0, 2}, numbers{0, 0, 3}, numbers{0, 0, 4})
}

// TestOrderedThings: P16.1, things of leaves that overlap, leave a gap, stand in another order, or end elsewhere than the order does.
func TestOrderedThings(t *testing.T) {
	two := func(length, first, count, second, rest int) tree.Tree {
		return bare(length, numbers{0, 0, 2}, numbers{first, count, 0}, numbers{second, rest, 0})
	}
	examine(t, two(4, 0, 2, 2, 2), true, 2, 2)
	for _, bad := range []tree.Tree{
		two(4, 0, 2, 1, 2), two(4, 0, 2, 1, 3), two(3, 0, 2, 1, 2), two(4, 0, 2, 0, 2), two(2, 0, 2, 0, 2), two(4, 0, 3, 2, 2), two(4, 0, 4, 0, 4), two(4, 0, 4, 4, 0),
		two(4, 0, 2, 3, 1), two(5, 0, 2, 3, 2), two(4, 0, 1, 2, 2), two(4, 1, 1, 2, 2), two(5, 1, 2, 3, 2), two(4, 1, 2, 3, 1),
		two(4, 2, 2, 0, 2), two(4, 3, 1, 0, 3), two(3, 1, 2, 0, 1),
		two(5, 0, 2, 2, 2), two(4, 0, 2, 2, 1), two(4, 0, 1, 1, 1), two(4000, 0, 2, 2, 2), two(3, 0, 2, 2, 2), two(4, 0, 2, 2, 3), two(1, 0, 2, 2, 2), two(0, 0, 2, 2, 2), two(4, 0, 5, 5, 2),
		two(4, -1, 3, 2, 2), two(4, 0, 2, -2, 2), two(4, 0, 2, 2, -2), two(4, 0, -2, 2, 2), two(4, 0, 6, 6, -2), two(4, -2, 2, 0, 4),
		bare(1, numbers{1, 1, 0}), bare(2, numbers{1, 1, 0}), bare(2, numbers{0, 1, 0}), bare(2, numbers{0, 3, 0}), bare(1, numbers{-1, 1, 0}), bare(1, numbers{-1, 2, 0}), bare(5, numbers{0, 4, 0}), bare(5, numbers{0, 6, 0}),
	} {
		examine(t, bad, false, 0, 0)
	}
	for _, number := range []int{least, least + 1, least + 2, least + 4, most, most - 1, most - 3, 1 << 32, 1<<32 + 2, -1 << 32, 1 << 62, -1 << 62} {
		for _, bad := range []tree.Tree{
			two(4, number, 2, 2, 2), two(4, 0, number, 2, 2), two(4, 0, 2, number, 2), two(4, 0, 2, 2, number), two(4, 0, number, number, 2), two(4, 0, 2, number, -number), two(4, number, -number, 2, 2), two(4, number, number, number, number), two(4, 0, number, number, 4-number),
			bare(4, numbers{number, 4, 0}), bare(4, numbers{0, number, 0}), bare(4, numbers{number, number, 0}), bare(4, numbers{number, number, number}), bare(4, numbers{0, 0, number}), bare(4, numbers{0, 4, number}),
			bare(0, numbers{number, number, number}), bare(0, numbers{0, number, 0}), bare(0, numbers{0, 0, number}), bare(0, numbers{number, 0, 0}),
		} {
			examine(t, bad, false, 0, 0)
		}
	}
}

// TestOrderedRound: P16.1, numbers of things that, added up, go round all ints and end with the order.
func TestOrderedRound(t *testing.T) {
	three := bare(4, numbers{0, 0, 2}, numbers{0, most, 0}, numbers{0, 0, 4}, numbers{most, most, 0}, numbers{-2, 6, 0})
	four := bare(4, numbers{0, 0, 2}, numbers{0, 1, 0}, numbers{0, 0, 4}, numbers{1, most, 0}, numbers{0, 0, 6}, numbers{least, most, 0}, numbers{-1, 5, 0})
	for _, bad := range []tree.Tree{three, four} {
		examine(t, bad, false, 0, 0)
		if tree.Whole(bad, row(0, 0, 0, 0)) {
			t.Errorf("%v is whole", bad)
		}
	}
}

// TestOrderedEvery: P16.1, all trees of up to two nodes, and of three nodes and three things, with small numbers: just those that the definition names are ordered.
func TestOrderedEvery(t *testing.T) {
	var all []numbers
	for first := -1; first <= 2; first++ {
		for count := -1; count <= 2; count++ {
			for right := -1; right <= 3; right++ {
				all = append(all, numbers{first, count, right})
			}
		}
	}
	found := 0
	see := func(length int, nodes ...numbers) {
		if tree.Ordered(bare(length, nodes...)) {
			found++
		}
	}
	for length := range 5 {
		see(length)
		for _, a := range all {
			see(length, a)
			for _, b := range all {
				see(length, a, b)
			}
		}
	}
	// No node; a leaf of one thing, or of two.
	if found != 3 {
		t.Errorf("of up to two nodes, %d trees are ordered", found)
	}
	found = 0
	for _, a := range all {
		for _, b := range all {
			for _, c := range all {
				see(3, a, b, c)
			}
		}
	}
	// Two leaves: of one thing and of two, either one ahead.
	if found != 2 {
		t.Errorf("of three nodes and things, %d trees are ordered", found)
	}
}

// tall is a tree whose depth and leaves are known.
type tall struct {
	t             tree.Tree
	depth, leaves int
}

// shapes holds the trees of every shape with that many leaves, in which the leaves have one, two or three things, in turns.
func shapes(leaves int) []tall {
	if leaves == 1 {
		return []tall{{bare(1, numbers{0, 1, 0}), 1, 1}, {bare(3, numbers{0, 3, 0}), 1, 1}}
	}
	var all []tall
	for left := 1; left < leaves; left++ {
		for _, a := range shapes(left) {
			for _, b := range shapes(leaves - left) {
				all = append(all, tall{joined(slab(0, 0), a.t, b.t), 1 + max(a.depth, b.depth), leaves})
			}
		}
	}
	return all
}

// TestOrderedShapes: P16.1, trees of every shape with up to five leaves; with another number in one of their nodes they are not ordered.
func TestOrderedShapes(t *testing.T) {
	total := 0
	for leaves := 1; leaves <= 5; leaves++ {
		for _, x := range shapes(leaves) {
			total++
			examine(t, x.t, true, x.depth, x.leaves)
			spoiled(x.t, []int{1, -1, 2, -2, least, most}, func(bad tree.Tree, inBox bool) {
				if tree.Ordered(bad) != inBox {
					t.Fatalf("%v is ordered, but %v is: %t", x.t, bad, !inBox)
				}
			})
		}
	}
	// The shapes of one to five leaves are 1, 1, 2, 5 and 14.
	if total != 2+4+2*8+5*16+14*32 {
		t.Errorf("%d trees were tried", total)
	}
}

// ordered is a tree that is ordered, of that many leaves.
func (m maker) ordered(leaves int) tree.Tree {
	if leaves == 1 {
		count := 1 + m.random.IntN(3)
		return bare(count, numbers{0, count, 0})
	}
	left := 1 + m.random.IntN(leaves-1)
	return joined(slab(0, 0), m.ordered(left), m.ordered(leaves-left))
}

// TestOrderedWide: P16.1, trees of every size, in which now and then numbers are others, or nodes are exchanged, missing or more, against the definition.
func TestOrderedWide(t *testing.T) {
	m, yes, no := made(300), 0, 0
	for range 20000 {
		x := m.ordered(1 + m.random.IntN(30))
		for range m.random.IntN(3) {
			a, b := m.random.IntN(len(x.Nodes)), m.random.IntN(len(x.Nodes))
			switch n := &x.Nodes[a]; m.random.IntN(6) {
			case 0:
				x.Nodes[a], x.Nodes[b] = x.Nodes[b], x.Nodes[a]
			case 1:
				n.Right += m.below(3)
			case 2:
				n.Count, n.First = n.Count+m.below(1), n.First+m.below(1)
			case 3:
				x.Nodes = slices.Insert(x.Nodes, a, x.Nodes[b])
			case 4:
				x.Nodes = slices.Delete(x.Nodes, a, min(len(x.Nodes), a+1+m.random.IntN(3)))
			case 5:
				x.Order = places(max(0, len(x.Order)+m.below(1)))
			}
			if len(x.Nodes) == 0 {
				break
			}
		}
		if whether(t, x) {
			yes++
		} else {
			no++
		}
	}
	if min(yes, no) < 5000 {
		t.Errorf("%d trees are ordered, and %d are not", yes, no)
	}
}

// TestOrderedValues: P16.1, which indices the order has does not matter, nor which boxes the nodes have.
func TestOrderedValues(t *testing.T) {
	x := bare(4, numbers{0, 0, 2}, numbers{0, 2, 0}, numbers{2, 2, 0})
	for _, order := range [][]int{{0, 0, 0, 0}, {3, 2, 1, 0}, {-1, 9, least, most}} {
		x.Order = order
		x.Nodes[0].Box, x.Nodes[2].Box = slab(order[0], order[1]), slab(order[3], order[2])
		examine(t, x, true, 2, 2)
	}
}

// TestOrderedBeyond: P16.1, nodes and indices beyond the lengths of their lists do not count.
func TestOrderedBeyond(t *testing.T) {
	x := bare(6, numbers{0, 0, 4}, numbers{0, 0, 3}, numbers{0, 1, 0}, numbers{1, 2, 0}, numbers{3, 3, 0}, numbers{0, 0, 9}, numbers{6, 1, 0})
	for nodes := range len(x.Nodes) + 1 {
		for length := range len(x.Order) + 1 {
			part := tree.Tree{Nodes: x.Nodes[:nodes], Order: x.Order[:length]}
			if whether(t, part) != (nodes == 5 && length == 6 || nodes == 0 && length == 0) {
				t.Errorf("%v is ordered, or is not", part)
			}
		}
	}
	if !same(x, bare(6, numbers{0, 0, 4}, numbers{0, 0, 3}, numbers{0, 1, 0}, numbers{1, 2, 0}, numbers{3, 3, 0}, numbers{0, 0, 9}, numbers{6, 1, 0})) {
		t.Errorf("the tree became %v", x)
	}
}

// ladder is the tree of that many nodes with two parts, one below the other: each one the left part of the one before it, or each one the right part.
func ladder(rungs int, left bool) tree.Tree {
	t := tree.Tree{Order: places(rungs + 1)}
	for rung := range rungs {
		if left {
			t.Nodes = append(t.Nodes, other(slab(0, 0), 2*rungs-rung))
		} else {
			t.Nodes = append(t.Nodes, other(slab(0, 0), 2*rung+2), leaf(slab(0, 0), rung, 1))
		}
	}
	for rung := range rungs + 1 {
		if left || rung == rungs {
			t.Nodes = append(t.Nodes, leaf(slab(0, 0), rung, 1))
		}
	}
	return t
}

// TestOrderedDeep: P16.1, trees of left parts alone, and of right parts alone, as deep as may be; with one other number they are not ordered.
func TestOrderedDeep(t *testing.T) {
	for _, rungs := range []int{0, 1, 2, 3, 10, 1000, 1<<16 - 1} {
		for _, left := range []bool{false, true} {
			x := ladder(rungs, left)
			examine(t, x, true, rungs+1, rungs+1)
			last := len(x.Nodes) - 1
			x.Nodes[last].Count++
			examine(t, x, false, 0, 0)
			x.Nodes[last].Count--
			x.Nodes[last/2].Right += 2
			examine(t, x, false, 0, 0)
		}
	}
	both := joined(slab(0, 0), ladder(70, true), ladder(90, false))
	examine(t, both, true, 92, 162)
	examine(t, joined(slab(0, 0), both, both), true, 93, 324)
	examine(t, joined(slab(0, 0), ladder(90, false), ladder(70, true)), true, 92, 162)
}
