package walk_test

import (
	"testing"

	"skylight/api"
	"skylight/box"
	"skylight/tree"
	"skylight/walk"
)

// wide is the box that is met from everywhere along everything.
var wide = between(of(-near, -near, -near), of(near, near, near))

// strays holds rays of every kind: from no place, along what is not near, along nothing, and leaving what is not there.
func strays() []api.Ray {
	var all []api.Ray
	for _, index := range []int{-1, 0, 2, 3, most, least} {
		for _, o := range []api.Vec{of(200, 0, 0), of(0, 0, 0), of(edge+1, 0, 0), of(near+1, 0, 0), of(most, least, most), of(least, least, least)} {
			for _, d := range []api.Vec{of(-1, 0, 0), of(0, 0, 0), of(near+1, 0, 1), of(most, most, least), of(least, 0, 0)} {
				all = append(all, leaving(index, o, d))
			}
		}
	}
	return all
}

// ends calls every function: each of them must end, and tell of nothing that is not there.
func ends(t *testing.T, x tree.Tree, l []api.Prim, r api.Ray) {
	t.Helper()
	hit, ok := walk.Closest(x, l, r)
	if ok && (hit.Prim < 0 || hit.Prim >= len(l)) || !ok && hit != (api.Hit{}) {
		t.Fatalf("the closest that %v meets of %v, by %v: %v, %t", r, l, x, hit, ok)
	}
	for _, bound := range []api.Frac{{}, fraction(5, 1), fraction(most, 1), fraction(least, most), fraction(least, least)} {
		if walk.Any(x, l, r, bound) && len(l) == 0 {
			t.Fatalf("%v meets something of nothing before %v, by %v", r, bound, x)
		}
	}
	if !walk.Clear(x, l, r.O, r.D, r.From) && len(l) == 0 {
		t.Fatalf("without things, by %v, it is not clear from %v to %v", x, r.O, r.D)
	}
	if got := walk.Met(x, r); got < 0 || got > len(x.Nodes) {
		t.Fatalf("%v meets %d boxes of %v", r, got, x)
	}
}

// TestStraysEvery: 0.1, all trees of up to two nodes of some small numbers, and of the greatest and the least: their nodes have themselves or nothing as parts, or things that do not stand in the order.
func TestStraysEvery(t *testing.T) {
	var nodes []tree.Node
	for _, first := range []int{-1, 0, 1, most, least} {
		for _, count := range []int{-1, 0, 1, 2, most, least} {
			for _, right := range []int{-1, 0, 1, 2, most, least} {
				nodes = append(nodes, tree.Node{Box: wide, First: first, Count: count, Right: right})
			}
		}
	}
	back, l := along(of(200, 0, 0), of(-1, 0, 0)), row(0, 50)
	for _, order := range [][]int{nil, {1}, {0, 1}, {-1, 2}, {most, least}, {1, 1, 1}} {
		for _, a := range nodes {
			ends(t, tree.Tree{Nodes: []tree.Node{a}, Order: order}, l, back)
			for _, b := range nodes {
				ends(t, tree.Tree{Nodes: []tree.Node{a, b}, Order: order}, l, back)
			}
		}
	}
}

// TestStraysRound: 0.1, nodes of which each has the same nodes as parts that another one has, or those ahead of it, so that there are more ways through the tree than can be gone.
func TestStraysRound(t *testing.T) {
	back := along(of(200, 0, 0), of(-1, 0, 0))
	for _, count := range []int{1, 2, 3, 70, 1 << 13} {
		for _, right := range []func(place int) int{
			func(place int) int { return place + 1 },
			func(place int) int { return place + 2 },
			func(place int) int { return place },
			func(place int) int { return place - 1 },
			func(place int) int { return 0 },
			func(place int) int { return count - 1 },
			func(place int) int { return count },
			func(place int) int { return count - place },
		} {
			x := tree.Tree{Order: []int{0}}
			for place := range count {
				x.Nodes = append(x.Nodes, tree.Node{Box: wide, Right: right(place)})
			}
			ends(t, x, row(0), back)
			x.Nodes[count-1] = tree.Node{Box: wide, Count: 1}
			ends(t, x, row(0), back)
		}
	}
}

// TestStrays: 0.1, rays of every kind, things and boxes that are not valid, trees of other things, and trees without nodes of things that are there.
func TestStrays(t *testing.T) {
	l := row(0, 50, 100)
	built := tree.Build(l)
	odd := []api.Prim{{}, round(of(0, 0, 0), 3), {Kind: 3, A: of(1, 1, 1), R: 5}, triangle(of(most, least, 0), of(0, most, 0), of(least, 0, most)), round(of(least, most, 0), most)}
	bad := tree.Tree{Nodes: []tree.Node{{Box: between(of(5, 5, 5), of(-5, -5, -5)), Right: 2}, {Box: between(of(least, least, least), of(most, most, most)), Count: 1}, {Box: box.Box{}, First: 1, Count: 2}}, Order: []int{1, 0, 2}}
	for _, r := range strays() {
		for _, x := range []tree.Tree{{}, {Order: []int{0, 1, 2}}, {Nodes: built.Nodes}, built, bad} {
			for _, things := range [][]api.Prim{nil, l, l[:2], l[:1], append(row(0), l...), odd, append(row(0, 50, 100), odd...)} {
				ends(t, x, things, r)
			}
		}
	}
}
