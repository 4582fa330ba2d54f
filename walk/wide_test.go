package walk_test

import (
	"math/rand/v2"
	"slices"
	"testing"

	"skylight/api"
	"skylight/box"
	"skylight/frac"
	"skylight/plain"
	"skylight/prim"
	"skylight/tree"
	"skylight/walk"
)

// maker makes things, trees and rays without a pattern.
type maker struct{ random *rand.Rand }

// made makes them by a number.
func made(number uint64) maker { return maker{rand.New(rand.NewPCG(17, number))} }

// below is a number from -bound to bound.
func (m maker) below(bound int) int { return m.random.IntN(2*bound+1) - bound }

// place is one with coordinates from -bound to bound.
func (m maker) place(bound int) api.Vec {
	return of(m.below(bound), m.below(bound), m.below(bound))
}

// thing is a valid one whose places have coordinates from -bound to bound.
func (m maker) thing(bound int) api.Prim {
	for {
		p := triangle(m.place(bound), m.place(bound), m.place(bound))
		if m.random.IntN(3) == 0 {
			p = round(m.place(bound), 4+m.random.IntN(min(bound, thick-4)/(1+m.random.IntN(4))+1))
		}
		if prim.Right(p) {
			return p
		}
	}
}

// things holds that many, of which some stand there twice.
func (m maker) things(count, bound int) []api.Prim {
	var l []api.Prim
	for range count {
		if len(l) > 0 && m.random.IntN(5) == 0 {
			l = append(l, l[m.random.IntN(len(l))])
			continue
		}
		l = append(l, m.thing(bound))
	}
	return l
}

// filled is a tree of any shape whose leaves have the things with these indices, in this order.
func (m maker) filled(l []api.Prim, order []int) tree.Tree {
	if len(order) == 1 || m.random.IntN(4) == 0 {
		return single(l, order)
	}
	at := 1 + m.random.IntN(len(order)-1)
	return joined(l, m.filled(l, order[:at]), m.filled(l, order[at:]))
}

// grown holds the tree that is built of l, and others of any shape and order.
func (m maker) grown(l []api.Prim) []tree.Tree {
	all := []tree.Tree{tree.Build(l)}
	for range 3 {
		if len(l) > 0 {
			all = append(all, m.filled(l, m.random.Perm(len(l))))
		}
	}
	return all
}

// end is any place, or one that a thing of l has: a corner, the center, or a place of its surface.
func (m maker) end(l []api.Prim, bound int) api.Vec {
	if len(l) == 0 || m.random.IntN(3) == 0 {
		return m.place(bound)
	}
	p := l[m.random.IntN(len(l))]
	if p.Kind == 2 {
		return []api.Vec{p.A, of(p.A.X+p.R, p.A.Y, p.A.Z), of(p.A.X, p.A.Y, p.A.Z-p.R)}[m.random.IntN(3)]
	}
	return []api.Vec{p.A, p.B, p.C, prim.Point(p, 20000, 30000)}[m.random.IntN(4)]
}

// way is the vector from o to another end.
func (m maker) way(l []api.Prim, o api.Vec, bound int) api.Vec {
	to := m.end(l, bound)
	return of(to.X-o.X, to.Y-o.Y, to.Z-o.Z)
}

// ray is one from any end to another one that leaves a thing of l, or none.
func (m maker) ray(l []api.Prim, bound int) api.Ray {
	o := m.end(l, bound)
	for max(o.X, o.Y, o.Z) > edge || min(o.X, o.Y, o.Z) < -edge {
		o = m.place(bound)
	}
	d := m.way(l, o, bound)
	for max(d.X, d.Y, d.Z) > near || min(d.X, d.Y, d.Z) < -near {
		d = m.place(bound)
	}
	return leaving(m.random.IntN(len(l)+2)-1, o, d)
}

// tied tells whether two of the hits have the same fraction.
func tied(all []api.Hit, f api.Frac) bool {
	count := 0
	for _, h := range all {
		if frac.Same(h.T, f) {
			count++
		}
	}
	return count > 1
}

// TestWide: P17.1 and P17.3, lists of every size, with little room and with much of it, by trees of every shape and order.
func TestWide(t *testing.T) {
	met, missed, ties, beside := 0, 0, 0, 0
	for _, bound := range []int{2, 6, 30, 1000, edge} {
		m := made(uint64(bound))
		for round := range 120 {
			l := m.things(round%15, bound)
			all := m.grown(l)
			for range 8 {
				r := m.ray(l, bound)
				agree(t, all, l, r)
				hit, ok := plain.Closest(l, r)
				if !ok {
					missed++
					continue
				}
				met++
				if tied(plain.All(l, r), hit.T) {
					ties++
				}
				if hit.Prim == r.From && !box.Hit(prim.Box(l[hit.Prim]), r, api.Frac{}) {
					beside++
				}
			}
		}
	}
	if min(met, missed) < 1200 || ties < 240 || beside < 30 {
		t.Errorf("something was met %d times, nothing %d times; %d ties, and %d things that a ray leaves from beside their boxes", met, missed, ties, beside)
	}
}

// TestMany: P17.1 and P17.3, as many things as a list may have.
func TestMany(t *testing.T) {
	met := 0
	for _, bound := range []int{60, 5000, edge} {
		m := made(uint64(100 + bound))
		l := m.things(full, bound)
		all := []tree.Tree{tree.Build(l), m.filled(l, m.random.Perm(full)), leftward(l, m.random.Perm(full), 1)}
		for _, x := range all {
			if !tree.Whole(x, l) {
				t.Fatalf("a tree of %d things is not whole", full)
			}
		}
		for range 9 {
			r := m.ray(l, bound)
			agree(t, all, l, r)
			if _, ok := plain.Closest(l, r); ok {
				met++
			}
		}
	}
	if met < 9 {
		t.Errorf("something was met %d times", met)
	}
}

// TestEvery: P17.1 and P17.3, few things, and all rays from a lattice of places, inside boxes, on their faces, edges and corners, along all axes, diagonals, and nothing, that leave each thing, and none.
func TestEvery(t *testing.T) {
	l := []api.Prim{round(of(0, 0, 0), 4), round(of(10, 0, 0), 6), triangle(of(-8, -4, 4), of(8, -4, 4), of(0, 4, 4)), triangle(of(4, 4, -4), of(4, -4, -4), of(4, 4, 4))}
	all := []tree.Tree{tree.Build(l), leftward(l, []int{3, 1, 0, 2}, 1), rightward(l, []int{0, 2, 3, 1}, 2)}
	for _, x := range all {
		if !tree.Whole(x, l) {
			t.Fatalf("%v is not a whole tree of %v", x, l)
		}
	}
	steps, ways := []int{-9, -4, 0, 4, 16}, []int{-1, 0, 1}
	met, tried := 0, 0
	for place := range 125 {
		o := of(steps[place/25], steps[place/5%5], steps[place%5])
		for way := range 27 {
			d := of(ways[way/9], ways[way/3%3], ways[way%3])
			for from := -1; from <= len(l); from++ {
				tried++
				r := leaving(from, o, d)
				agree(t, all, l, r)
				if walk.Any(all[0], l, r, api.Frac{}) {
					met++
				}
			}
		}
	}
	if met < tried/8 || met > tried*7/8 {
		t.Errorf("of %d rays, %d meet something", tried, met)
	}
}

// TestKept: P17.1 and P17.2, no list is changed, and what lies beyond its length does not count.
func TestKept(t *testing.T) {
	l := row(0, 50, 100)
	x := tree.Build(l)
	nodes, order, things := slices.Clone(x.Nodes), slices.Clone(x.Order), slices.Clone(l)
	back := along(of(200, 0, 0), of(-1, 0, 0))
	check := func(x tree.Tree, l []api.Prim) {
		t.Helper()
		if got, ok := walk.Closest(x, l, back); got != hit(2, 95, 1) || !ok {
			t.Errorf("the closest is %v, %t", got, ok)
		}
		if !walk.Any(x, l, back, fraction(96, 1)) || walk.Any(x, l, back, fraction(95, 1)) {
			t.Error("anything is met elsewhere than before 96, and not before 95")
		}
		if walk.Clear(x, l, of(200, 0, 0), of(104, 0, 0), -1) || !walk.Clear(x, l, of(200, 0, 0), of(105, 0, 0), -1) {
			t.Error("it is clear beyond 105, or not up to there")
		}
		if got := walk.Met(x, back); got != 3 {
			t.Errorf("%d boxes are met", got)
		}
	}
	check(x, l)
	check(x, l)
	if !slices.Equal(x.Nodes, nodes) || !slices.Equal(x.Order, order) || !slices.Equal(l, things) {
		t.Errorf("the lists are now %v, %v and %v", x.Nodes, x.Order, l)
	}
	more := tree.Tree{Nodes: append(slices.Clone(nodes), tree.Node{Box: box.Box{Hi: of(300, 0, 0)}, Count: 4}), Order: append(slices.Clone(order), 3)}
	more.Nodes, more.Order = more.Nodes[:len(nodes)], more.Order[:len(order)]
	check(more, row(0, 50, 100, 150)[:3])
	spare := tree.Tree{Nodes: more.Nodes[:0], Order: more.Order[:0]}
	if _, ok := walk.Closest(spare, l[:0], back); ok || walk.Any(spare, l[:0], back, api.Frac{}) || walk.Met(spare, back) != 0 {
		t.Error("what lies beyond the length of a list is met")
	}
}
