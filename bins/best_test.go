package bins_test

import (
	"slices"
	"testing"

	"skylight/api"
	"skylight/bins"
	"skylight/box"
)

// ends holds the least and the greatest middle of l, which is not empty, along the axis.
func ends(l []box.Box, axis int) (lo, hi int) {
	var mids []int
	for _, b := range l {
		mids = append(mids, list(b.Lo)[axis]+list(b.Hi)[axis])
	}
	return slices.Min(mids), slices.Max(mids)
}

// priced is a split and what it costs.
type priced struct {
	s    bins.Split
	cost int
}

// candidates holds all splits of l that have a cost, in the order in which they are examined.
func candidates(l []box.Box) []priced {
	var all []priced
	for axis := range 3 {
		if len(l) == 0 {
			break
		}
		lo, hi := ends(l, axis)
		for place := 1; place <= 7 && lo < hi; place++ {
			s := bins.Split{Axis: axis, At: place, Lo: lo, Hi: hi}
			if cost, ok := costOf(s, l); ok {
				all = append(all, priced{s, cost})
			}
		}
	}
	return all
}

// unbeaten holds those of all than which no other one costs less.
func unbeaten(all []priced) []priced {
	return slices.DeleteFunc(slices.Clone(all), func(a priced) bool {
		return slices.ContainsFunc(all, func(b priced) bool { return b.cost < a.cost })
	})
}

// shuffled holds l in another order.
func (m maker) shuffled(l []box.Box) []box.Box {
	other := slices.Clone(l)
	m.random.Shuffle(len(other), func(i, j int) { other[i], other[j] = other[j], other[i] })
	return other
}

// crowds holds lists of every size, of which many lie in so little room that splits have one cost.
func crowds() [][]box.Box {
	var all [][]box.Box
	for _, bound := range []int{1, 2, 5, 30, 1000, near} {
		m := made(300 + uint64(bound))
		for count := range 16 {
			for range 25 {
				all = append(all, m.boxes(count, bound))
			}
		}
		all = append(all, m.boxes(100, bound), m.boxes(500, bound))
	}
	return all
}

// TestBest: P15.2, by cases: no box, one, two along each axis, at one place, middles that are equal along an axis or more, and costs of which one is the least.
func TestBest(t *testing.T) {
	none := bins.Split{}
	zero, odd := cube(2, 0, 0, 0), between(of(3, 5, 7), of(4, 6, 8))
	for _, c := range []struct {
		l    []box.Box
		want bins.Split
	}{
		{nil, none}, {[]box.Box{}, none}, {[]box.Box{{}}, none}, {[]box.Box{zero}, none}, {[]box.Box{whole()}, none}, {[]box.Box{{}, {}}, none}, {[]box.Box{odd, odd}, none}, {times(9, odd), none}, // the chapter's example, for one
		{[]box.Box{{Hi: of(2, 0, 0)}, between(of(10, 0, 0), of(12, 0, 0))}, bins.Split{At: 1, Lo: 2, Hi: 22}}, // the chapter's example, for two
		{[]box.Box{zero, cube(2, 9, 0, 0)}, bins.Split{Axis: 0, At: 1, Lo: 2, Hi: 20}}, {[]box.Box{zero, cube(2, 0, 9, 0)}, bins.Split{Axis: 1, At: 1, Lo: 2, Hi: 20}}, {[]box.Box{zero, cube(2, 0, 0, 9)}, bins.Split{Axis: 2, At: 1, Lo: 2, Hi: 20}},
		{[]box.Box{zero, cube(2, -9, 0, 0)}, bins.Split{Axis: 0, At: 1, Lo: -16, Hi: 2}}, {[]box.Box{zero, cube(2, 0, -9, 0)}, bins.Split{Axis: 1, At: 1, Lo: -16, Hi: 2}}, {[]box.Box{zero, cube(2, 0, 0, -9)}, bins.Split{Axis: 2, At: 1, Lo: -16, Hi: 2}},
		{[]box.Box{zero, cube(3, 0, 0, 0)}, bins.Split{Axis: 0, At: 1, Lo: 2, Hi: 3}}, {[]box.Box{zero, between(of(0, 0, 0), of(2, 3, 2))}, bins.Split{Axis: 1, At: 1, Lo: 2, Hi: 3}}, {[]box.Box{zero, between(of(0, 0, 0), of(2, 2, 3))}, bins.Split{Axis: 2, At: 1, Lo: 2, Hi: 3}},
		{[]box.Box{zero, cube(4, -1, -1, -1)}, none}, {[]box.Box{whole(), {}}, none}, {[]box.Box{cube(0, 1, 1, 1), cube(2, 0, 0, 0), between(of(-8, 1, 1), of(10, 1, 1))}, none}, {[]box.Box{zero, cube(4, -1, -1, -1), zero}, none},
		{[]box.Box{zero, zero, cube(2, 9, 0, 0)}, bins.Split{At: 1, Lo: 2, Hi: 20}}, {[]box.Box{cube(2, 9, 0, 0), zero, cube(2, 9, 0, 0)}, bins.Split{At: 1, Lo: 2, Hi: 20}}, {[]box.Box{zero, cube(2, 0, 9, 9)}, bins.Split{Axis: 1, At: 1, Lo: 2, Hi: 20}}, {[]box.Box{zero, cube(2, 9, 0, 9)}, bins.Split{Axis: 0, At: 1, Lo: 2, Hi: 20}}, {[]box.Box{zero, cube(2, 9, 9, 9)}, bins.Split{Axis: 0, At: 1, Lo: 2, Hi: 20}},
		{[]box.Box{{}, cube(0, 1, 0, 0)}, bins.Split{At: 1, Hi: 2}}, {[]box.Box{{}, cube(0, 5, 5, 5)}, bins.Split{At: 1, Hi: 10}}, {[]box.Box{{}, cube(0, -5, 5, 5), {}}, bins.Split{At: 1, Lo: -10}}, {[]box.Box{cube(0, 0, 7, 0), cube(0, 0, 9, 0), {}}, bins.Split{Axis: 1, At: 1, Hi: 18}},
		{[]box.Box{cube(0, near, 0, 0), cube(0, -near, 0, 0)}, bins.Split{At: 1, Lo: -far, Hi: far}}, {[]box.Box{whole(), cube(0, -near, -near, -near)}, bins.Split{At: 1, Lo: -far}}, {[]box.Box{whole(), cube(0, near, near, near)}, bins.Split{At: 1, Hi: far}},
		{[]box.Box{zero, cube(2, 4, 0, 0), cube(2, 20, 0, 0)}, bins.Split{At: 2, Lo: 2, Hi: 42}}, {[]box.Box{cube(2, 900, 700, 800), cube(2, 904, 700, 800), cube(2, 920, 700, 800)}, bins.Split{At: 2, Lo: 1802, Hi: 1842}}, {[]box.Box{zero, cube(2, 16, 0, 0), cube(2, 20, 0, 0)}, bins.Split{At: 1, Lo: 2, Hi: 42}}, {[]box.Box{cube(2, 0, 900, 0), cube(2, 0, 0, 0), cube(2, 0, 901, 0), cube(2, 0, 700, 0), cube(2, 0, 702, 0)}, bins.Split{Axis: 1, At: 1, Lo: 2, Hi: 1804}}, {[]box.Box{cube(2, 0, 0, 0), cube(2, 0, 0, 70), cube(2, 0, 0, 90), cube(2, 0, 0, 93), cube(2, 0, 0, 3), cube(2, 0, 0, 5)}, bins.Split{Axis: 2, At: 1, Lo: 2, Hi: 188}},
	} {
		got, ok := bins.Best(c.l)
		if got != c.want || ok != (c.want != none) {
			t.Errorf("the best split of %v is %v, %t, not %v", c.l, got, ok, c.want)
		}
	}
}

// TestBestFirst: P15.2, splits of one cost, along one axis and along others: the first one that is examined is answered.
func TestBestFirst(t *testing.T) {
	zero := cube(2, 0, 0, 0)
	for _, c := range []struct {
		l     []box.Box
		want  bins.Split
		equal int
	}{
		{[]box.Box{zero, cube(2, 0, 90, 0)}, bins.Split{Axis: 1, At: 1, Lo: 2, Hi: 182}, 7},
		{[]box.Box{zero, cube(2, 4, 0, 0), cube(2, 20, 0, 0)}, bins.Split{At: 2, Lo: 2, Hi: 42}, 6},
		{[]box.Box{zero, cube(2, 0, 0, 10), cube(2, 0, 0, 90), cube(2, 0, 0, 100)}, bins.Split{Axis: 2, At: 1, Lo: 2, Hi: 202}, 7},
		{[]box.Box{zero, cube(2, 0, 0, 30), cube(2, 0, 0, 80), cube(2, 0, 0, 100)}, bins.Split{Axis: 2, At: 3, Lo: 2, Hi: 202}, 4},
		{[]box.Box{zero, cube(2, 90, 90, 0)}, bins.Split{Axis: 0, At: 1, Lo: 2, Hi: 182}, 14},
		{[]box.Box{zero, cube(2, 0, 90, 90)}, bins.Split{Axis: 1, At: 1, Lo: 2, Hi: 182}, 14},
		{[]box.Box{zero, cube(2, 90, 90, 90)}, bins.Split{Axis: 0, At: 1, Lo: 2, Hi: 182}, 21},
		{[]box.Box{{}, cube(0, 90, 90, 90)}, bins.Split{Axis: 0, At: 1, Hi: 180}, 21},
		{[]box.Box{zero, cube(2, 100, 0, 0), cube(2, 0, 1000, 1000), cube(2, 100, 1000, 1000)}, bins.Split{Axis: 1, At: 1, Lo: 2, Hi: 2002}, 14},
		{[]box.Box{zero, cube(2, 0, 100, 0), cube(2, 1000, 0, 1000), cube(2, 1000, 100, 1000)}, bins.Split{Axis: 0, At: 1, Lo: 2, Hi: 2002}, 14},
		{[]box.Box{zero, cube(2, 100, 100, 0), cube(2, 100, 0, 1000), cube(2, 0, 100, 1000)}, bins.Split{Axis: 2, At: 1, Lo: 2, Hi: 2002}, 7},
	} {
		if equal := unbeaten(candidates(c.l)); len(equal) != c.equal || equal[0].s != c.want {
			t.Errorf("of %v, %d splits cost least, the first of them being %v", c.l, len(equal), equal[0].s)
		}
		if got, ok := bins.Best(c.l); got != c.want || !ok {
			t.Errorf("the best split of %v is %v, %t, not %v", c.l, got, ok, c.want)
		}
	}
}

// TestBestStrays: P15.2, there is none if a box is not valid, wherever in the list it is; what is beyond the list's length does not count.
func TestBestStrays(t *testing.T) {
	l := []box.Box{cube(2, 0, 0, 0), cube(2, 9, 9, 9), cube(2, 5, 3, -4)}
	none := func(l []box.Box) {
		t.Helper()
		if got, ok := bins.Best(l); got != (bins.Split{}) || ok {
			t.Errorf("the best split of %v is %v, %t", l, got, ok)
		}
	}
	for _, stray := range broken() {
		none([]box.Box{stray})
		none([]box.Box{stray, stray})
		none(with(broken(), stray))
		for place := range len(l) + 1 {
			none(slices.Insert(slices.Clone(l), place, stray))
		}
		want, _ := bins.Best(l)
		if got, ok := bins.Best(with(l, stray)[:len(l)]); got != want || !ok {
			t.Errorf("with %v beyond the list's length, the best split of %v is %v, %t", stray, l, got, ok)
		}
	}
}

// TestBestMany: P15.2, exactly as many boxes as there may be, of the greatest areas too, and one more.
func TestBestMany(t *testing.T) {
	m := made(400)
	greatest := with(times(full-1, whole()), between(of(-near, -near, -near), of(near, near, near-1)))
	for _, all := range [][]box.Box{m.boxes(full, 9), m.boxes(full, 1000), m.boxes(full, near), greatest} {
		want := unbeaten(candidates(all))[0].s
		if got, ok := bins.Best(all); got != want || !ok {
			t.Errorf("the best split of %d boxes is %v, %t, not %v", full, got, ok, want)
		}
		if got, ok := bins.Best(all[1:]); got != unbeaten(candidates(all[1:]))[0].s || !ok {
			t.Errorf("the best split of %d boxes is %v, %t", full-1, got, ok)
		}
		if got, ok := bins.Best(with(all, all[0])); got != (bins.Split{}) || ok {
			t.Errorf("the best split of %d boxes is %v, %t", full+1, got, ok)
		}
		if got, ok := bins.Best(with(all, all...)); got != (bins.Split{}) || ok {
			t.Errorf("the best split of %d boxes is %v, %t", 2*full, got, ok)
		}
	}
}

// TestBestWide: P15.2, lists of every size: the first one of those splits, examined one by one, than which no other one costs less; the list stays as it is.
func TestBestWide(t *testing.T) {
	var axes [3]int
	var found [8]int
	none, alone, even, across := 0, 0, 0, 0
	for _, l := range crowds() {
		equal, before := unbeaten(candidates(l)), slices.Clone(l)
		want := append(slices.Clone(equal), priced{})[0].s
		got, ok := bins.Best(l)
		if got != want || ok != (len(equal) > 0) {
			t.Fatalf("the best split of %v is %v, %t, not %v", l, got, ok, want)
		}
		if !slices.Equal(l, before) {
			t.Fatalf("Best changed %v to %v", before, l)
		}
		switch {
		case len(equal) == 0:
			none++
			continue
		case len(equal) == 1:
			alone++
		case equal[len(equal)-1].s.Axis == want.Axis:
			even++
		default:
			across++
		}
		axes[want.Axis]++
		found[want.At]++
	}
	if min(none, alone, even, across, axes[0], axes[1], axes[2]) < 80 || slices.Min(found[1:]) < 10 {
		t.Errorf("there was none %d times, one %d times, several along an axis %d times, and along others %d times; by axes %v, by places %v", none, alone, even, across, axes, found)
	}
}

// TestBestSides: P15.3, a split that is answered has boxes on both sides, and each box on one of them, as Left tells; it costs what Cost tells.
func TestBestSides(t *testing.T) {
	splits := 0
	for _, l := range crowds() {
		s, ok := bins.Best(l)
		if !ok {
			continue
		}
		splits++
		left, right := bins.Sides(s, l)
		if len(left) == 0 || len(right) == 0 {
			t.Fatalf("%v parts %v into %v and %v", s, l, left, right)
		}
		both := slices.Concat(left, right)
		if slices.Sort(both); len(both) != len(l) || len(slices.Compact(both)) != len(l) || both[0] != 0 || both[len(l)-1] != len(l)-1 {
			t.Fatalf("%v parts %v into %v and %v", s, l, left, right)
		}
		for place, b := range l {
			if _, is := slices.BinarySearch(left, place); is != bins.Left(s, b) {
				t.Fatalf("%v parts %v into %v and %v, though %v goes to the left: %t", s, l, left, right, b, !is)
			}
		}
		cost, ok := bins.Cost(s, l)
		if want := unbeaten(candidates(l))[0].cost; !ok || cost != want {
			t.Fatalf("%v costs %d, %t of %v, not %d", s, cost, ok, l, want)
		}
	}
	if splits < 1000 {
		t.Errorf("there are %d splits", splits)
	}
}

// TestBestOrder: P15.3, the order of the boxes does not matter for the best split, nor for what it costs.
func TestBestOrder(t *testing.T) {
	m, changed := made(500), 0
	all := append(crowds(), m.boxes(full, 9), m.boxes(full, near))
	for _, l := range all {
		want, is := bins.Best(l)
		backward := slices.Clone(l)
		slices.Reverse(backward)
		for _, other := range [][]box.Box{backward, m.shuffled(l), m.shuffled(l)} {
			if got, ok := bins.Best(other); got != want || ok != is {
				t.Fatalf("the best split of %v is %v, %t, and in another order %v, %t", l, want, is, got, ok)
			}
			one, first := bins.Cost(want, l)
			if two, second := bins.Cost(want, other); one != two || first != second {
				t.Fatalf("%v costs %d, %t of %v, and in another order %d, %t", want, one, first, l, two, second)
			}
			if !slices.Equal(l, other) {
				changed++
			}
		}
	}
	if changed < 3000 {
		t.Errorf("the order was another one %d times", changed)
	}
}

// TestBestMoved: P15.2, boxes that all stand elsewhere are split as before, between middles that moved with them.
func TestBestMoved(t *testing.T) {
	for _, bound := range []int{2, 30, 1000} {
		m := made(600 + uint64(bound))
		for range 200 {
			l := m.boxes(2+m.random.IntN(12), bound)
			s, is := bins.Best(l)
			moved, want := []box.Box{}, s
			for _, b := range l {
				moved = append(moved, between(of(b.Lo.X+700, b.Lo.Y-900, b.Lo.Z+5), of(b.Hi.X+700, b.Hi.Y-900, b.Hi.Z+5)))
			}
			if is {
				by := 2 * list(api.Vec{X: 700, Y: -900, Z: 5})[s.Axis]
				want.Lo, want.Hi = s.Lo+by, s.Hi+by
			}
			if got, ok := bins.Best(moved); got != want || ok != is {
				t.Fatalf("the best split of %v is %v, %t, and elsewhere %v, %t", l, s, is, got, ok)
			}
		}
	}
}
