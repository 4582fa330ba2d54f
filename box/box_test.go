package box_test

import (
	"math"
	"math/big"
	"math/rand/v2"
	"slices"
	"testing"

	"skylight/api"
	"skylight/box"
)

const (
	least  = math.MinInt
	most   = math.MaxInt
	near   = 1 << 20 // as far as near coordinates go
	growth = 16      // as far as boxes grow
)

// of is the vector with these coordinates.
func of(x, y, z int) api.Vec { return api.Vec{X: x, Y: y, Z: z} }

// list holds the coordinates of v.
func list(v api.Vec) [3]int { return [3]int{v.X, v.Y, v.Z} }

// made is the vector of what along answers, axis by axis.
func made(along func(axis int) int) api.Vec { return of(along(0), along(1), along(2)) }

// between is the box with these corners.
func between(lo, hi api.Vec) box.Box { return box.Box{Lo: lo, Hi: hi} }

// point is the box that is only v.
func point(v api.Vec) box.Box { return between(v, v) }

// grid holds every vector that has its coordinates out of numbers.
func grid(numbers ...int) []api.Vec {
	var all []api.Vec
	for _, x := range numbers {
		for _, y := range numbers {
			for _, z := range numbers {
				all = append(all, of(x, y, z))
			}
		}
	}
	return all
}

// scattered holds vectors without a pattern, with coordinates from -bound to bound.
func scattered(count, bound int) []api.Vec {
	random := rand.New(rand.NewPCG(10, uint64(bound)))
	below := func() int { return random.IntN(2*bound+1) - bound }
	var all []api.Vec
	for range count {
		all = append(all, of(below(), below(), below()))
	}
	return all
}

// strays holds vectors that are not near, each along one axis at least.
func strays() []api.Vec {
	all := []api.Vec{of(near+1, near+1, near+1), of(least, least, least), of(most, most, most), of(most, least, 0)}
	for _, n := range []int{near + 1, -near - 1, 2 * near, -2 * near, 1 << 32, -1 << 32, 1 << 62, -1 << 62, most, least + 1, least} {
		all = append(all, of(n, 0, 0), of(0, n, 0), of(0, 0, n), of(n, 5, near), of(-near, n, 5), of(5, near, n))
	}
	return all
}

// whole is the greatest box that there is.
func whole() box.Box { return between(of(-near, -near, -near), of(near, near, near)) }

// ordered holds the boxes that vectors make in pairs: each with the ones a few places behind it.
func ordered(vectors []api.Vec) []box.Box {
	var all []box.Box
	for i, a := range vectors {
		for _, step := range []int{1, 7, 40} {
			b := vectors[(i+step)%len(vectors)]
			lo := made(func(axis int) int { return min(list(a)[axis], list(b)[axis]) })
			hi := made(func(axis int) int { return max(list(a)[axis], list(b)[axis]) })
			all = append(all, between(lo, hi))
		}
	}
	return all
}

// boxes holds valid ones: points, flat ones, lines, those at the edges of what is near, and those without a pattern.
func boxes() []box.Box {
	all := []box.Box{
		{}, whole(), between(of(0, 0, 0), of(2, 3, 4)), between(of(-5, -7, -9), of(-1, -2, -3)),
		between(of(1, 2, 3), of(1, 5, 6)), between(of(1, 2, 3), of(4, 2, 6)), between(of(1, 2, 3), of(4, 5, 3)),
		between(of(1, 2, 3), of(4, 2, 3)), between(of(1, 2, 3), of(1, 5, 3)), between(of(1, 2, 3), of(1, 2, 6)),
	}
	for _, v := range grid(-near, 3, near) {
		all = append(all, point(v))
	}
	all = append(all, ordered(grid(near, near-1, -near))...)
	return append(append(all, ordered(scattered(15, 10))...), ordered(scattered(25, near))...)
}

// broken holds boxes that are not valid: with Lo greater than Hi along an axis or more, or not near at Lo, at Hi, or at both.
func broken() []box.Box {
	all := []box.Box{
		between(of(1, 0, 0), of(0, 0, 0)), between(of(0, 1, 0), of(0, 0, 0)), between(of(0, 0, 1), of(0, 0, 0)),
		between(of(1, 0, 0), of(0, 9, 9)), between(of(0, 1, 0), of(9, 0, 9)), between(of(0, 0, 1), of(9, 9, 0)),
		between(of(near, -near, -near), of(-near, near, near)), between(of(-near, near, -near), of(near, near-1, near)), between(of(-near, -near, 1-near), of(near, near, -near)),
		between(of(1, 1, 1), of(0, 0, 0)), between(of(near, near, near), of(-near, -near, -near)), between(of(2, 3, 4), of(0, 0, 9)),
	}
	for _, v := range strays() {
		all = append(all, point(v), between(of(-near, -near, -near), v), between(v, of(near, near, near)), between(of(0, 0, 0), v), between(v, of(0, 0, 0)))
	}
	return all
}

// contains tells, axis by axis, whether v lies in b.
func contains(b box.Box, v api.Vec) bool {
	for axis, n := range list(v) {
		if n < list(b.Lo)[axis] || n > list(b.Hi)[axis] {
			return false
		}
	}
	return true
}

// lies tells whether all of a lies in b.
func lies(a, b box.Box) bool { return contains(b, a.Lo) && contains(b, a.Hi) }

// TestRight: P10.1, a box is valid up to the bounds of near vectors, also if it is a point or flat, and is not if Lo is greater than Hi along one axis alone.
func TestRight(t *testing.T) {
	for _, b := range boxes() {
		if !box.Right(b) {
			t.Errorf("%v is not valid", b)
		}
	}
	for _, b := range broken() {
		if box.Right(b) {
			t.Errorf("%v is valid", b)
		}
	}
	for _, lo := range grid(0, 1, 2) {
		for _, hi := range grid(0, 1, 2) {
			want := lo.X <= hi.X && lo.Y <= hi.Y && lo.Z <= hi.Z
			if got := box.Right(between(lo, hi)); got != want {
				t.Errorf("from %v to %v: valid is %t", lo, hi, got)
			}
		}
	}
}

// TestOf: P10.1, by cases.
func TestOf(t *testing.T) {
	for _, c := range []struct {
		l    []api.Vec
		want box.Box
	}{
		{[]api.Vec{of(0, 0, 0)}, box.Box{}},
		{[]api.Vec{of(1, -2, 3)}, point(of(1, -2, 3))},
		{[]api.Vec{of(1, -2, 3), of(1, -2, 3)}, point(of(1, -2, 3))},
		{[]api.Vec{of(5, 6, 7), of(1, 9, 7)}, between(of(1, 6, 7), of(5, 9, 7))},
		{[]api.Vec{of(5, -6, 7), of(1, 9, -7), of(-2, 0, 0)}, between(of(-2, -6, -7), of(5, 9, 7))},
		{[]api.Vec{of(near, near, near), of(-near, -near, -near)}, whole()},
		{[]api.Vec{of(near, -near, 0), of(near, -near, near)}, between(of(near, -near, 0), of(near, -near, near))},
	} {
		if got, ok := box.Of(c.l); got != c.want || !ok {
			t.Errorf("the box of %v is %v, %t", c.l, got, ok)
		}
	}
}

// TestOfLeast: P10.1, along each axis, it goes from the least coordinate to the greatest, wherever in the list they are.
func TestOfLeast(t *testing.T) {
	for _, bound := range []int{2, 100, near} {
		vectors := scattered(40, bound)
		for length := 1; length <= len(vectors); length++ {
			for from := 0; from+length <= len(vectors); from += 7 {
				l := slices.Clone(vectors[from : from+length])
				got, ok := box.Of(vectors[from : from+length])
				for axis := range 3 {
					slices.SortFunc(l, func(a, b api.Vec) int { return list(a)[axis] - list(b)[axis] })
					if lo, hi := list(l[0])[axis], list(l[length-1])[axis]; !ok || list(got.Lo)[axis] != lo || list(got.Hi)[axis] != hi {
						t.Fatalf("the box of %v is %v, %t: along %d, they go from %d to %d", l, got, ok, axis, lo, hi)
					}
				}
			}
		}
		if !slices.Equal(vectors, scattered(40, bound)) {
			t.Error("Of changed its list")
		}
	}
}

// TestOfNone: P10.1, there is none of an empty list, or if one vector is not near, wherever in the list it is.
func TestOfNone(t *testing.T) {
	lists := [][]api.Vec{nil, {}, []api.Vec{of(1, 2, 3)}[:0]}
	for _, stray := range strays() {
		lists = append(lists, []api.Vec{stray}, []api.Vec{stray, of(1, 2, 3)}, []api.Vec{of(1, 2, 3), stray}, []api.Vec{of(near, 0, 0), stray, of(-near, 0, 0)}, []api.Vec{stray, stray})
	}
	for _, l := range lists {
		if got, ok := box.Of(l); got != (box.Box{}) || ok {
			t.Errorf("the box of %v is %v, %t", l, got, ok)
		}
	}
	if got, ok := box.Of([]api.Vec{of(1, 2, 3), of(least, most, 0)}[:1]); got != point(of(1, 2, 3)) || !ok {
		t.Errorf("with a stray beyond the list's length, it is %v, %t", got, ok)
	}
}

// TestJoin: P10.1, by cases, and that each of its faces is one of a part's.
func TestJoin(t *testing.T) {
	for _, c := range []struct{ a, b, want box.Box }{
		{box.Box{}, box.Box{}, box.Box{}},
		{point(of(1, 2, 3)), point(of(3, 2, 1)), between(of(1, 2, 1), of(3, 2, 3))},
		{between(of(0, 0, 0), of(2, 3, 4)), point(of(1, 1, 1)), between(of(0, 0, 0), of(2, 3, 4))},
		{between(of(0, 0, 0), of(2, 3, 4)), between(of(1, -1, 2), of(5, 1, 9)), between(of(0, -1, 0), of(5, 3, 9))},
		{between(of(-9, 4, 0), of(-8, 5, 1)), between(of(8, -5, 0), of(9, -4, 1)), between(of(-9, -5, 0), of(9, 5, 1))},
		{point(of(near, near, near)), point(of(-near, -near, -near)), whole()},
	} {
		if got := box.Join(c.a, c.b); got != c.want {
			t.Errorf("%v and %v make %v", c.a, c.b, got)
		}
	}
	for _, a := range boxes() {
		for _, b := range boxes() {
			got := box.Join(a, b)
			for axis := range 3 {
				lo, hi := min(list(a.Lo)[axis], list(b.Lo)[axis]), max(list(a.Hi)[axis], list(b.Hi)[axis])
				if list(got.Lo)[axis] != lo || list(got.Hi)[axis] != hi {
					t.Fatalf("%v and %v make %v", a, b, got)
				}
			}
		}
	}
}

// TestJoinStrays: P10.1, it is zero if either box is not valid, or both are not.
func TestJoinStrays(t *testing.T) {
	for _, a := range broken() {
		for _, b := range append(broken()[:20], box.Box{}, whole(), between(of(1, 2, 3), of(4, 5, 6))) {
			if got, back := box.Join(a, b), box.Join(b, a); got != (box.Box{}) || back != (box.Box{}) {
				t.Errorf("%v and %v make %v, the other way round %v", a, b, got, back)
			}
		}
	}
}

// TestGrow: P10.1, by every number that it takes, and no farther than is near.
func TestGrow(t *testing.T) {
	b := between(of(1, 2, 3), of(4, 6, 8))
	for _, c := range []struct {
		b    box.Box
		n    int
		want box.Box
	}{
		{b, 0, b}, {b, 1, between(of(0, 1, 2), of(5, 7, 9))}, {b, growth, between(of(-15, -14, -13), of(20, 22, 24))},
		{point(of(0, 0, 0)), 5, between(of(-5, -5, -5), of(5, 5, 5))},
		{whole(), 0, whole()}, {whole(), 1, whole()}, {whole(), growth, whole()},
		{point(of(near, near, near)), 3, between(of(near-3, near-3, near-3), of(near, near, near))},
		{point(of(-near, -near, -near)), 3, between(of(-near, -near, -near), of(3-near, 3-near, 3-near))},
		{between(of(15-near, -near, 0), of(0, 0, near-15)), growth, between(of(-near, -near, -16), of(16, 16, near))},
		{between(of(16-near, 17-near, 0), of(0, near-17, near-16)), growth, between(of(-near, 1-near, -16), of(16, near-1, near))},
	} {
		if got := box.Grow(c.b, c.n); got != c.want {
			t.Errorf("%v, grown by %d, is %v", c.b, c.n, got)
		}
	}
	for _, b := range boxes() {
		for n := range growth + 1 {
			lo := made(func(axis int) int { return max(list(b.Lo)[axis]-n, -near) })
			hi := made(func(axis int) int { return min(list(b.Hi)[axis]+n, near) })
			if got := box.Grow(b, n); got != between(lo, hi) || !box.Right(got) {
				t.Errorf("%v, grown by %d, is %v", b, n, got)
			}
		}
	}
}

// TestGrowStrays: P10.1, it is zero by less than 0 or more than 16, and of what is not valid.
func TestGrowStrays(t *testing.T) {
	for _, b := range boxes() {
		for _, n := range []int{-1, -2, -growth, growth + 1, 2 * growth, 1 << 32, -1 << 32, most, least, least + 1} {
			if got := box.Grow(b, n); got != (box.Box{}) {
				t.Errorf("%v, grown by %d, is %v", b, n, got)
			}
		}
	}
	for _, b := range broken() {
		for _, n := range []int{-1, 0, 1, growth, growth + 1} {
			if got := box.Grow(b, n); got != (box.Box{}) {
				t.Errorf("%v, grown by %d, is %v", b, n, got)
			}
		}
	}
}

// TestHas: P10.1, a box has what lies between its faces, and on them, and nothing beyond them.
func TestHas(t *testing.T) {
	for _, b := range boxes() {
		for _, v := range append(scattered(20, near), of(0, 0, 0), of(2, 3, 4), of(1, 1, 1)) {
			if got := box.Has(b, v); got != contains(b, v) {
				t.Errorf("%v has %v: %t", b, v, got)
			}
		}
		for _, place := range grid(0, 1, 2, 3, 4) {
			v := made(func(axis int) int {
				lo, hi := list(b.Lo)[axis], list(b.Hi)[axis]
				return [5]int{lo - 1, lo, (lo + hi) / 2, hi, hi + 1}[list(place)[axis]]
			})
			beyond := slices.ContainsFunc([]int{place.X, place.Y, place.Z}, func(n int) bool { return n == 0 || n == 4 })
			if got := box.Has(b, v); got != !beyond {
				t.Errorf("%v has %v: %t", b, v, got)
			}
		}
	}
}

// TestHasStrays: P10.1, no box has what is not near, and what is not valid has nothing.
func TestHasStrays(t *testing.T) {
	for _, v := range strays() {
		for _, b := range boxes() {
			if box.Has(b, v) {
				t.Errorf("%v has %v", b, v)
			}
		}
		if box.Has(point(v), v) {
			t.Errorf("%v has its corner", point(v))
		}
	}
	for _, b := range broken() {
		for _, v := range []api.Vec{b.Lo, b.Hi, of(0, 0, 0), of(1, 1, 1), of(2, 2, 2), of(near, near, near)} {
			if box.Has(b, v) {
				t.Errorf("%v, which is not valid, has %v", b, v)
			}
		}
	}
}

// TestArea: P10.1, by cases, the chapter's example among them, and against exact numbers.
func TestArea(t *testing.T) {
	for _, c := range []struct {
		b    box.Box
		want int
	}{
		{between(of(0, 0, 0), of(2, 3, 4)), 26}, {between(of(-2, -3, -4), of(0, 0, 0)), 26}, {between(of(-1, 5, 9), of(0, 6, 10)), 3},
		{box.Box{}, 0}, {point(of(near, -near, 7)), 0}, {between(of(1, 2, 3), of(9, 2, 3)), 0},
		{between(of(1, 2, 3), of(1, 4, 6)), 6}, {between(of(1, 2, 3), of(3, 2, 6)), 6}, {between(of(1, 2, 3), of(3, 5, 3)), 6},
		{whole(), 3 << 42}, {between(of(-near, -near, -near), of(near, near, near-1)), 1<<42 + 1<<22*(1<<21-1)},
	} {
		if got := box.Area(c.b); got != c.want {
			t.Errorf("the area of %v is %d, not %d", c.b, got, c.want)
		}
	}
	for _, b := range boxes() {
		all := new(big.Int)
		for axis := range 3 {
			next := (axis + 1) % 3
			a, b := list(b.Hi)[axis]-list(b.Lo)[axis], list(b.Hi)[next]-list(b.Lo)[next]
			all.Add(all, new(big.Int).Mul(big.NewInt(int64(a)), big.NewInt(int64(b))))
		}
		if got, want := box.Area(b), int(all.Int64()); got != want {
			t.Errorf("the area of %v is %d, not %d", b, got, want)
		}
	}
}

// TestMid: P10.1, along each axis, by cases and of every box.
func TestMid(t *testing.T) {
	for _, c := range []struct {
		b    box.Box
		want [3]int
	}{
		{between(of(0, 0, 0), of(2, 3, 4)), [3]int{2, 3, 4}}, {between(of(1, -2, -9), of(4, 5, -3)), [3]int{5, 3, -12}}, {point(of(7, -8, 0)), [3]int{14, -16, 0}},
		{whole(), [3]int{0, 0, 0}}, {point(of(near, -near, near-1)), [3]int{2 * near, -2 * near, 2*near - 2}},
	} {
		for axis, want := range c.want {
			if got := box.Mid(c.b, axis); got != want {
				t.Errorf("the middle of %v along %d is %d, not %d", c.b, axis, got, want)
			}
		}
	}
	for _, b := range boxes() {
		for axis := range 3 {
			if got, want := box.Mid(b, axis), list(b.Lo)[axis]+list(b.Hi)[axis]; got != want {
				t.Errorf("the middle of %v along %d is %d, not %d", b, axis, got, want)
			}
		}
	}
}

// TestStrays: P10.1, what is not valid has no area, and no middle; nor has any box a middle along an axis that is none of the three.
func TestStrays(t *testing.T) {
	for _, b := range broken() {
		if got := box.Area(b); got != 0 {
			t.Errorf("the area of %v is %d", b, got)
		}
		for axis := -1; axis <= 3; axis++ {
			if got := box.Mid(b, axis); got != 0 {
				t.Errorf("the middle of %v along %d is %d", b, axis, got)
			}
		}
	}
	for _, b := range boxes() {
		for _, axis := range []int{-1, 3, -2, -3, 4, 5, 1 << 32, -1 << 32, 1 << 62, most, least} {
			if got := box.Mid(b, axis); got != 0 {
				t.Errorf("the middle of %v along %d is %d", b, axis, got)
			}
		}
	}
}
