package bins_test

import (
	"math"
	"math/rand/v2"
	"slices"
	"testing"

	"skylight/api"
	"skylight/bins"
	"skylight/box"
)

const (
	least = math.MinInt
	most  = math.MaxInt
	near  = 1 << 20 // as far as near coordinates go
	far   = 1 << 21 // as far as middles go
	full  = 1024    // as many boxes as a list may have
)

// of is the vector with these coordinates.
func of(x, y, z int) api.Vec { return api.Vec{X: x, Y: y, Z: z} }

// list holds the coordinates of v.
func list(v api.Vec) [3]int { return [3]int{v.X, v.Y, v.Z} }

// between is the box with these corners.
func between(lo, hi api.Vec) box.Box { return box.Box{Lo: lo, Hi: hi} }

// cube is the box with edges of that length whose lowest corner is there.
func cube(edge, x, y, z int) box.Box { return between(of(x, y, z), of(x+edge, y+edge, z+edge)) }

// whole is the greatest box that there is.
func whole() box.Box { return cube(2*near, -near, -near, -near) }

// at is a box whose middle along the axis is mid, while along the others it is 5 and 11.
func at(axis, mid int) box.Box {
	low, high := [3]int{2, 5, 2}, [3]int{3, 6, 3}
	low[axis], high[axis] = mid>>1, mid-mid>>1
	return between(of(low[0], low[1], low[2]), of(high[0], high[1], high[2]))
}

// times holds that many of b.
func times(count int, b box.Box) []box.Box { return slices.Repeat([]box.Box{b}, count) }

// with holds l and then more, in a list of its own.
func with(l []box.Box, more ...box.Box) []box.Box { return slices.Concat(l, more) }

// broken holds boxes that are not valid, of which the first ones have sums of coordinates as valid ones have them.
func broken() []box.Box {
	return []box.Box{
		between(of(1, 0, 0), of(0, 0, 0)), between(of(0, 1, 0), of(0, 0, 0)), between(of(0, 0, 1), of(0, 0, 0)), between(of(9, 9, 9), of(-9, -9, -9)), between(of(2, 2, 3), of(3, 3, 2)),
		between(of(-near-1, 0, 0), of(0, 0, 0)), between(of(0, -near-1, 0), of(0, 0, 0)), between(of(0, 0, -near-1), of(0, 0, 0)), between(of(0, 0, 0), of(near+1, 0, 0)), between(of(0, 0, 0), of(0, near+1, 0)), between(of(0, 0, 0), of(0, 0, near+1)), between(of(-near-1, -near-1, -near-1), of(near+1, near+1, near+1)),
		between(of(least, least, least), of(most, most, most)), between(of(most, 0, 0), of(least, 0, 0)), between(of(most, most, most), of(most, most, most)), between(of(least, least, least), of(least, least, least)),
	}
}

// strays holds numbers that are no axis, or none of lo and hi.
func strays() []int {
	return []int{far + 1, -far - 1, far + 2, 2 * far, -2 * far, 1 << 32, -1 << 32, 1 << 62, -1 << 62, most - 1, most, least + 1, least}
}

// places holds numbers from 1 to 7, and those that no split has as its place.
func places() []int {
	return []int{least, -1 << 32, -8, -1, 0, 1, 2, 3, 4, 5, 6, 7, 8, 9, 1 << 32, most}
}

// binOf is the bin of b, found by counting how many eighths its middle has passed.
func binOf(b box.Box, axis, lo, hi int) int {
	if !box.Right(b) || axis < 0 || axis > 2 || lo < -far || lo > far || hi < -far || hi > far || hi < lo {
		return -1
	}
	mid := list(b.Lo)[axis] + list(b.Hi)[axis]
	if mid < lo || mid > hi {
		return -1
	}
	bin := 0
	for (bin+1)*(hi-lo+1) <= 8*(mid-lo) {
		bin++
	}
	return bin
}

// sidesOf holds the boxes that go to the left, and the others.
func sidesOf(s bins.Split, l []box.Box) (left, right []box.Box) {
	for _, b := range l {
		if bin := binOf(b, s.Axis, s.Lo, s.Hi); bin >= 0 && bin < s.At {
			left = append(left, b)
		} else {
			right = append(right, b)
		}
	}
	return left, right
}

// sum is the area of the least box around all of l, which is not empty, times their number.
func sum(l []box.Box) int {
	var edges [3]int
	for axis := range edges {
		var lows, highs []int
		for _, b := range l {
			lows, highs = append(lows, list(b.Lo)[axis]), append(highs, list(b.Hi)[axis])
		}
		edges[axis] = slices.Max(highs) - slices.Min(lows)
	}
	return (edges[0]*edges[1] + edges[1]*edges[2] + edges[0]*edges[2]) * len(l)
}

// costOf is what s costs, by the definition.
func costOf(s bins.Split, l []box.Box) (int, bool) {
	lacks := func(b box.Box) bool { return binOf(b, s.Axis, s.Lo, s.Hi) < 0 }
	left, right := sidesOf(s, l)
	if len(l) > full || slices.ContainsFunc(l, lacks) || len(left) == 0 || len(right) == 0 {
		return 0, false
	}
	return sum(left) + sum(right), true
}

// maker makes boxes without a pattern.
type maker struct{ random *rand.Rand }

// made makes them by a number.
func made(number uint64) maker { return maker{rand.New(rand.NewPCG(15, number))} }

// below is a number from -bound to bound.
func (m maker) below(bound int) int { return m.random.IntN(2*bound+1) - bound }

// box is one with coordinates from -bound to bound: now and then a point, or one without an area.
func (m maker) box(bound int) box.Box {
	a, b := of(m.below(bound), m.below(bound), m.below(bound)), of(m.below(bound), m.below(bound), m.below(bound))
	switch m.random.IntN(6) {
	case 0:
		b = a
	case 1:
		b.X, b.Y = a.X, a.Y
	}
	return between(of(min(a.X, b.X), min(a.Y, b.Y), min(a.Z, b.Z)), of(max(a.X, b.X), max(a.Y, b.Y), max(a.Z, b.Z)))
}

// boxes holds that many, of which some stand there twice.
func (m maker) boxes(count, bound int) []box.Box {
	var l []box.Box
	for range count {
		if len(l) > 0 && m.random.IntN(6) == 0 {
			l = append(l, l[m.random.IntN(len(l))])
			continue
		}
		l = append(l, m.box(bound))
	}
	return l
}

// split is one whose numbers lie about those of boxes with coordinates from -bound to bound, now and then one of another kind.
func (m maker) split(bound int) bins.Split {
	lo, hi := m.below(2*bound), m.below(2*bound)
	if m.random.IntN(8) > 0 {
		lo, hi = min(lo, hi), max(lo, hi)
	}
	if m.random.IntN(2) == 0 {
		lo, hi = -min(2*bound, far), min(2*bound, far)
	}
	s := bins.Split{Axis: m.random.IntN(3), At: 1 + m.random.IntN(7), Lo: lo, Hi: hi}
	all := append(strays(), 3, -1)
	switch m.random.IntN(20) {
	case 0:
		s.Axis = all[m.random.IntN(len(all))]
	case 1:
		s.At = places()[m.random.IntN(len(places()))]
	case 2:
		s.Lo = strays()[m.random.IntN(len(strays()))]
	case 3:
		s.Hi = strays()[m.random.IntN(len(strays()))]
	}
	return s
}

// TestBin: P15.1, each middle between two numbers, by cases: the width is divided by 8, or is not, or is less than 8.
func TestBin(t *testing.T) {
	for _, c := range []struct {
		lo, hi int
		want   []int
	}{
		{0, 7, []int{0, 1, 2, 3, 4, 5, 6, 7}}, {-9, -2, []int{0, 1, 2, 3, 4, 5, 6, 7}}, {5, 20, []int{0, 0, 1, 1, 2, 2, 3, 3, 4, 4, 5, 5, 6, 6, 7, 7}},
		{0, 9, []int{0, 0, 1, 2, 3, 4, 4, 5, 6, 7}}, {-3, 6, []int{0, 0, 1, 2, 3, 4, 4, 5, 6, 7}}, {-20, -9, []int{0, 0, 1, 2, 2, 3, 4, 4, 5, 6, 6, 7}}, {100, 108, []int{0, 0, 1, 2, 3, 4, 5, 6, 7}},
		{0, 6, []int{0, 1, 2, 3, 4, 5, 6}}, {-4, 0, []int{0, 1, 3, 4, 6}}, {-1, 2, []int{0, 2, 4, 6}}, {3, 5, []int{0, 2, 5}}, {0, 1, []int{0, 4}}, {-1, 0, []int{0, 4}},
		{0, 0, []int{0}}, {7, 7, []int{0}}, {-7, -7, []int{0}}, {far - 1, far, []int{0, 4}}, {-far, -far + 1, []int{0, 4}}, {far, far, []int{0}}, {-far, -far, []int{0}},
	} {
		for axis := range 3 {
			for away, want := range c.want {
				if got := bins.Bin(at(axis, c.lo+away), axis, c.lo, c.hi); got != want {
					t.Errorf("along %d, between %d and %d, the bin of %d is %d, not %d", axis, c.lo, c.hi, c.lo+away, got, want)
				}
			}
			for _, beyond := range []int{max(c.lo-1, -far), min(c.hi+1, far)} {
				if beyond >= c.lo && beyond <= c.hi {
					continue
				}
				if got := bins.Bin(at(axis, beyond), axis, c.lo, c.hi); got != -1 {
					t.Errorf("along %d, between %d and %d, the bin of %d, which is beyond, is %d", axis, c.lo, c.hi, beyond, got)
				}
			}
		}
	}
}

// TestBinFar: P15.1, by cases between numbers that are as far apart as they can be: just before each bin, and at it; and what the size of a box does not matter for.
func TestBinFar(t *testing.T) {
	for axis := range 3 {
		for bin := 1; bin < 8; bin++ {
			first := -far + bin<<19
			for _, c := range []struct{ mid, lo, hi, want int }{
				{first, -far, far - 1, bin}, {first - 1, -far, far - 1, bin - 1}, {first + 1, 1 - far, far, bin}, {first, 1 - far, far, bin - 1},
				{first + 1, -far, far, bin}, {first, -far, far, bin - 1}, {0, -far, far, 3}, {1, -far, far, 4}, {far, -far, far, 7}, {-far, -far, far, 0}, {far - 1, -far, far - 1, 7}, {far, -far, far - 1, -1}, {-far, 1 - far, far, -1},
			} {
				if got := bins.Bin(at(axis, c.mid), axis, c.lo, c.hi); got != c.want {
					t.Errorf("along %d, between %d and %d, the bin of %d is %d, not %d", axis, c.lo, c.hi, c.mid, got, c.want)
				}
			}
		}
		for _, b := range []box.Box{whole(), {}, cube(2, -1, -1, -1), cube(2000, -1000, -1000, -1000)} {
			if got := bins.Bin(b, axis, -2, 1); got != 4 {
				t.Errorf("along %d, between -2 and 1, the bin of %v is %d, not 4", axis, b, got)
			}
		}
	}
}

// TestBinNone: P15.1, a box that is not valid, an axis that is none, numbers that lie too far out, and a hi that is less than lo.
func TestBinNone(t *testing.T) {
	none := func(b box.Box, axis, lo, hi int) {
		t.Helper()
		if got := bins.Bin(b, axis, lo, hi); got != -1 {
			t.Errorf("along %d, between %d and %d, the bin of %v is %d", axis, lo, hi, b, got)
		}
	}
	for axis := range 3 {
		for _, b := range broken() {
			none(b, axis, -far, far)
			none(b, axis, 0, 0)
			none(b, axis, least, most)
		}
		for _, stray := range strays() {
			for _, b := range []box.Box{{}, at(axis, 7), at(axis, far), at(axis, -far), whole()} {
				none(b, stray, -far, far)
				for _, other := range append(strays(), -far, -1, 0, far) {
					none(b, axis, stray, other)
					none(b, axis, other, stray)
				}
			}
		}
		for _, c := range [][2]int{{1, 0}, {8, 6}, {0, -1}, {far, far - 1}, {far, -far}, {1 - far, -far}, {most, least}} {
			for _, mid := range []int{-far, -1, 0, 1, 6, 7, 8, far - 1, far} {
				none(at(axis, mid), axis, c[0], c[1])
			}
		}
	}
	for _, axis := range []int{-1, 3, -2, -3, 4, 1 << 32, 1<<32 + 1, -1 << 32, most, least} {
		none(box.Box{}, axis, 0, 1)
		none(box.Box{}, axis, 0, 0)
		none(whole(), axis, -far, far)
	}
}

// TestBinWide: P15.1, boxes and numbers of every size, against the definition.
func TestBinWide(t *testing.T) {
	counts := map[int]int{}
	for _, bound := range []int{2, 9, 1000, near} {
		m := made(uint64(bound))
		for range 20000 {
			b, s := m.box(bound), m.split(bound)
			want := binOf(b, s.Axis, s.Lo, s.Hi)
			if got := bins.Bin(b, s.Axis, s.Lo, s.Hi); got != want {
				t.Fatalf("along %d, between %d and %d, the bin of %v is %d, not %d", s.Axis, s.Lo, s.Hi, b, got, want)
			}
			counts[want]++
		}
	}
	for bin := -1; bin < 8; bin++ {
		if counts[bin] < 1000 {
			t.Errorf("there are %d boxes of the bin %d", counts[bin], bin)
		}
	}
}

// TestLeft: P15.1, each bin against each place: below it, at it and above it, and places that no split has.
func TestLeft(t *testing.T) {
	for axis := range 3 {
		for bin := range 8 {
			for _, place := range places() {
				s := bins.Split{Axis: axis, At: place, Lo: 16, Hi: 31}
				for _, mid := range []int{16 + 2*bin, 17 + 2*bin} {
					if got := bins.Left(s, at(axis, mid)); got != (bin < place) {
						t.Errorf("a box of the bin %d goes to the left by %v: %t", bin, s, got)
					}
				}
			}
		}
	}
	if s := (bins.Split{At: 1}); !bins.Left(s, box.Box{}) || bins.Left(s, at(0, 1)) || bins.Left(bins.Split{}, box.Box{}) {
		t.Error("the one box of the bin 0 does not go to the left by 1, or another one does, or it does by 0")
	}
}

// TestLeftNone: P15.1, a box without a bin does not go to the left, whatever the place is.
func TestLeftNone(t *testing.T) {
	for _, place := range places() {
		for axis := range 3 {
			for _, b := range append(broken(), at(axis, 15), at(axis, 32), whole(), at(axis, far), at(axis, -far)) {
				if s := (bins.Split{Axis: axis, At: place, Lo: 16, Hi: 31}); bins.Left(s, b) {
					t.Errorf("%v goes to the left by %v", b, s)
				}
			}
		}
		for _, s := range []bins.Split{{-1, place, -9, 9}, {3, place, -9, 9}, {most, place, -9, 9}, {least, place, -9, 9}, {0, place, 9, -9}, {0, place, 1, 0}, {0, place, -far - 1, 9}, {0, place, -9, far + 1}, {1, place, least, 9}, {1, place, -9, most}, {2, place, least, most}, {2, place, most, least}} {
			if bins.Left(s, box.Box{}) {
				t.Errorf("a box goes to the left by %v", s)
			}
		}
	}
}

// TestCost: P15.1, by cases: no box and one, what has no area, a box without a bin, and all on one side.
func TestCost(t *testing.T) {
	three := []box.Box{cube(2, 0, 0, 0), cube(2, 4, 0, 0), cube(2, 20, 0, 0)}
	away := []box.Box{cube(2, 900, 700, 800), cube(2, 904, 700, 800), cube(2, 920, 700, 800)}
	points := []box.Box{cube(0, 1, 2, 3), cube(0, 4, 2, 3), cube(0, 9, 2, 3)}
	for _, c := range []struct {
		s    bins.Split
		l    []box.Box
		want int
		ok   bool
	}{
		{bins.Split{At: 4, Hi: 7}, nil, 0, false}, {bins.Split{At: 4, Hi: 7}, []box.Box{}, 0, false}, {bins.Split{}, nil, 0, false}, {bins.Split{At: 1}, three[:1], 0, false}, {bins.Split{At: 1, Lo: 2, Hi: 2}, three[:1], 0, false}, {bins.Split{At: 4, Lo: -5, Hi: 2}, three[:1], 0, false}, {bins.Split{At: 4, Lo: 2, Hi: 9}, three[:1], 0, false},
		{bins.Split{At: 1, Lo: 2, Hi: 42}, three, 12 + 2*76, true}, {bins.Split{At: 2, Lo: 2, Hi: 42}, three, 2*28 + 12, true}, {bins.Split{At: 7, Lo: 2, Hi: 42}, three, 2*28 + 12, true}, {bins.Split{At: 1, Lo: 2, Hi: 42}, three[:2], 24, true}, {bins.Split{At: 7, Lo: 2, Hi: 42}, with(three[:1], three[2]), 24, true}, {bins.Split{At: 1, Lo: -far, Hi: far}, three, 0, false}, {bins.Split{At: 4, Lo: 10 - far, Hi: far}, three, 12 + 2*76, true}, {bins.Split{At: 4, Lo: -32, Hi: 43}, three, 12 + 2*76, true},
		{bins.Split{At: 1, Lo: 1802, Hi: 1842}, away, 12 + 2*76, true}, {bins.Split{At: 5, Lo: 1802, Hi: 1842}, away, 2*28 + 12, true}, {bins.Split{At: 5, Lo: 1802, Hi: 1842}, with(away, away...), 4*28 + 24, true},
		{bins.Split{At: 0, Lo: 2, Hi: 42}, three, 0, false}, {bins.Split{At: 8, Lo: 2, Hi: 42}, three, 0, false}, {bins.Split{At: -1, Lo: 2, Hi: 42}, three, 0, false}, {bins.Split{At: 9, Lo: 2, Hi: 42}, three, 0, false}, {bins.Split{At: most, Lo: 2, Hi: 42}, three, 0, false}, {bins.Split{At: least, Lo: 2, Hi: 42}, three, 0, false},
		{bins.Split{At: 2, Lo: 2, Hi: 41}, three, 0, false}, {bins.Split{At: 2, Lo: 3, Hi: 42}, three, 0, false}, {bins.Split{At: 2, Lo: 42, Hi: 2}, three, 0, false}, {bins.Split{At: 2, Lo: -far - 1, Hi: 42}, three, 0, false}, {bins.Split{At: 2, Lo: 2, Hi: far + 1}, three, 0, false}, {bins.Split{Axis: 3, At: 2, Lo: 2, Hi: 42}, three, 0, false}, {bins.Split{Axis: -1, At: 2, Lo: 2, Hi: 42}, three, 0, false},
		{bins.Split{At: 2, Lo: 2, Hi: 42}, with(three, broken()[0]), 0, false}, {bins.Split{At: 2, Lo: 2, Hi: 42}, with(broken()[4:5], three...), 0, false}, {bins.Split{At: 2, Lo: 2, Hi: 42}, with(three, cube(2, 21, 0, 0)), 0, false}, {bins.Split{At: 2, Lo: 2, Hi: 42}, with([]box.Box{cube(2, -1, 0, 0)}, three...), 0, false},
		{bins.Split{Axis: 1, At: 4, Lo: -5, Hi: 2}, three, 0, false}, {bins.Split{Axis: 1, At: 4, Lo: 2, Hi: 9}, three, 0, false}, {bins.Split{Axis: 2, At: 4, Lo: 2, Hi: 2}, three, 0, false},
		{bins.Split{At: 3, Lo: 2, Hi: 18}, points, 0, true}, {bins.Split{At: 2, Lo: 2, Hi: 18}, points, 0, true}, {bins.Split{At: 1, Lo: 2, Hi: 7}, points[:2], 0, false}, {bins.Split{At: 1, Lo: 2, Hi: 8}, points[:2], 0, true}, {bins.Split{At: 1, Lo: 2, Hi: 8}, points[:1], 0, false}, {bins.Split{At: 3, Lo: 2, Hi: 18}, with(points, cube(0, 9, 3, 3)), 0, true}, {bins.Split{At: 3, Lo: 2, Hi: 18}, with(points, cube(0, 9, 3, 5)), 4, true},
		{bins.Split{Axis: 1, At: 4, Lo: 2, Hi: 5}, []box.Box{between(of(0, 1, 0), of(6, 1, 5)), between(of(0, 2, 0), of(3, 3, 4))}, 30 + 12 + 3 + 4, true}, {bins.Split{Axis: 2, At: 1, Lo: -3, Hi: 9}, []box.Box{between(of(0, 0, 4), of(2, 3, 5)), between(of(5, 5, -2), of(6, 8, -1))}, 6 + 2 + 3 + 3 + 1 + 3, true},
	} {
		if got, ok := bins.Cost(c.s, c.l); got != c.want || ok != c.ok {
			t.Errorf("%v costs %d, %t of %v, not %d, %t", c.s, got, ok, c.l, c.want, c.ok)
		}
	}
}

// TestCostMany: P15.1, as many boxes as there may be, one less and one more, of the greatest areas that there are, and of a list with more of them beyond its length.
func TestCostMany(t *testing.T) {
	s := bins.Split{At: 2, Lo: -1, Hi: 0}
	lesser := between(of(-near, -near, -near), of(near-1, near, near))
	all := with(times(full/2, whole()), times(full/2+1, lesser)...)
	for _, count := range []int{full - 1, full, full + 1} {
		want, valid := (count-full/2)*sum([]box.Box{lesser})+full/2*3<<42, count <= full
		if !valid {
			want = 0
		}
		if got, ok := bins.Cost(s, all[:count]); got != want || ok != valid {
			t.Errorf("%d boxes of the greatest area cost %d, %t, not %d", count, got, ok, want)
		}
	}
	if got, ok := bins.Cost(s, with(times(full-1, whole()), lesser)); got != (full-1)*3<<42+sum([]box.Box{lesser}) || !ok {
		t.Errorf("but for one, all on the right cost %d, %t", got, ok)
	}
	for _, b := range append(broken(), at(0, 1)) {
		if got, ok := bins.Cost(s, with(all[:full-1], b)); got != 0 || ok {
			t.Errorf("with %v, which has no bin, they cost %d, %t", b, got, ok)
		}
	}
	if got, ok := bins.Cost(s, times(4*full, box.Box{})); got != 0 || ok {
		t.Errorf("far too many boxes cost %d, %t", got, ok)
	}
}

// TestCostWide: P15.1, lists of every size, against the definition; the list stays as it is.
func TestCostWide(t *testing.T) {
	yes, no := 0, 0
	for _, bound := range []int{2, 9, 1000, near} {
		m := made(100 + uint64(bound))
		for range 3000 {
			l := m.boxes(m.random.IntN(12), bound)
			if m.random.IntN(20) == 0 {
				l = append(l, broken()[m.random.IntN(len(broken()))])
			}
			s, before := m.split(bound), slices.Clone(l)
			want, valid := costOf(s, l)
			if got, ok := bins.Cost(s, l); got != want || ok != valid {
				t.Fatalf("%v costs %d, %t of %v, not %d, %t", s, got, ok, l, want, valid)
			}
			if !slices.Equal(l, before) {
				t.Fatalf("Cost changed %v to %v", before, l)
			}
			if valid {
				yes++
			} else {
				no++
			}
		}
	}
	if yes < 2000 || no < 2000 {
		t.Errorf("%d lists have a cost, and %d have none", yes, no)
	}
}

// TestSides: P15.1, by cases: no box, boxes without a bin, all on one side, and places that no split has.
func TestSides(t *testing.T) {
	l := []box.Box{at(0, 7), at(0, 0), at(0, 4), at(0, 3), at(0, 8), at(0, 0), at(0, -1), {Lo: of(1, 0, 0)}, at(0, 6)}
	for _, c := range []struct {
		s           bins.Split
		l           []box.Box
		left, right []int
	}{
		{bins.Split{At: 4, Hi: 7}, nil, nil, nil}, {bins.Split{At: 4, Hi: 7}, []box.Box{}, nil, nil}, {bins.Split{}, nil, nil, nil}, {bins.Split{At: 4, Hi: 7}, broken()[:3], nil, []int{0, 1, 2}}, {bins.Split{At: most, Lo: -far, Hi: far}, broken()[:4], nil, []int{0, 1, 2, 3}},
		{bins.Split{At: 4, Hi: 7}, l, []int{1, 3, 5}, []int{0, 2, 4, 6, 7, 8}}, {bins.Split{At: 5, Hi: 7}, l, []int{1, 2, 3, 5}, []int{0, 4, 6, 7, 8}}, {bins.Split{At: 1, Hi: 7}, l, []int{1, 5}, []int{0, 2, 3, 4, 6, 7, 8}}, {bins.Split{At: 7, Hi: 7}, l, []int{1, 2, 3, 5, 8}, []int{0, 4, 6, 7}}, {bins.Split{At: 4, Hi: 7}, l[:4], []int{1, 3}, []int{0, 2}},
		{bins.Split{At: 7, Lo: -1, Hi: 8}, l, []int{0, 1, 2, 3, 5, 6, 8}, []int{4, 7}}, {bins.Split{At: 7, Lo: -10, Hi: 90}, l, []int{0, 1, 2, 3, 4, 5, 6, 8}, []int{7}}, {bins.Split{At: 1, Lo: -100, Hi: 9}, l, nil, []int{0, 1, 2, 3, 4, 5, 6, 7, 8}}, {bins.Split{At: 1, Lo: -100, Hi: 9}, l[1:3], nil, []int{0, 1}}, {bins.Split{At: 1, Lo: -1, Hi: 90}, l[:7], []int{0, 1, 2, 3, 4, 5, 6}, nil}, {bins.Split{At: 1, Lo: -1, Hi: 90}, l[2:3], []int{0}, nil},
		{bins.Split{At: 0, Hi: 7}, l[:3], nil, []int{0, 1, 2}}, {bins.Split{At: -1, Hi: 7}, l[:3], nil, []int{0, 1, 2}}, {bins.Split{At: least, Hi: 7}, l[:3], nil, []int{0, 1, 2}}, {bins.Split{At: 8, Hi: 7}, l[:3], []int{0, 1, 2}, nil}, {bins.Split{At: most, Hi: 7}, l[:5], []int{0, 1, 2, 3}, []int{4}}, {bins.Split{At: 9, Hi: 7}, l[3:8], []int{0, 2}, []int{1, 3, 4}},
		{bins.Split{Axis: 1, At: 4, Lo: 11, Hi: 11}, l[:3], []int{0, 1, 2}, nil}, {bins.Split{Axis: 2, At: 4, Lo: 1, Hi: 5}, l[:3], nil, []int{0, 1, 2}}, {bins.Split{Axis: 3, At: 4, Hi: 7}, l[:3], nil, []int{0, 1, 2}}, {bins.Split{Axis: -1, At: 4, Hi: 7}, l[:3], nil, []int{0, 1, 2}}, {bins.Split{At: 4, Lo: 7}, l[:3], nil, []int{0, 1, 2}}, {bins.Split{At: 4, Lo: -far - 1, Hi: far}, l[:3], nil, []int{0, 1, 2}}, {bins.Split{At: 4, Lo: -far, Hi: far + 1}, l[:3], nil, []int{0, 1, 2}},
	} {
		left, right := bins.Sides(c.s, c.l)
		if !slices.Equal(left, c.left) || !slices.Equal(right, c.right) {
			t.Errorf("%v parts %v into %v and %v, not %v and %v", c.s, c.l, left, right, c.left, c.right)
		}
	}
}

// TestSidesWide: P15.1, lists of every size, also of more than 1024 boxes: each side holds the places of those that go there, ascending, in lists of their own.
func TestSidesWide(t *testing.T) {
	m := made(200)
	for _, count := range []int{1, 2, 3, 8, 50, full, full + 1, 3 * full} {
		for range 60 {
			bound := []int{2, 9, 1000, near}[m.random.IntN(4)]
			l, s := m.boxes(count, bound), m.split(bound)
			l[m.random.IntN(count)] = broken()[m.random.IntN(len(broken()))]
			before := slices.Clone(l)
			var wanted [2][]int
			for place, b := range l {
				side := 1
				if bin := binOf(b, s.Axis, s.Lo, s.Hi); bin >= 0 && bin < s.At {
					side = 0
				}
				wanted[side] = append(wanted[side], place)
			}
			left, right := bins.Sides(s, l)
			if !slices.Equal(left, wanted[0]) || !slices.Equal(right, wanted[1]) || !slices.Equal(l, before) {
				t.Fatalf("%v parts %v into %v and %v", s, before, left, right)
			}
			if left = append(left, -5, -6, -7); !slices.Equal(right, wanted[1]) {
				t.Fatalf("%v, put behind the left side, came into the right one: %v", left[len(left)-3:], right)
			}
			right = append(right, -5, -6, -7)
			if again, others := bins.Sides(s, l); !slices.Equal(left[:len(left)-3], again) || !slices.Equal(right[:len(right)-3], others) {
				t.Fatalf("a second time, %v parts %v into %v and %v", s, l, again, others)
			}
		}
	}
}
