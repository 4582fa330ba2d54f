package plain_test

import (
	"math"
	"math/big"
	"math/rand/v2"
	"slices"
	"testing"

	"skylight/api"
	"skylight/plain"
	"skylight/prim"
)

const (
	least = math.MinInt
	most  = math.MaxInt
	edge  = 1 << 19 // as far as places go
	near  = 1 << 20 // as far as near coordinates go
	thick = 1 << 18 // the greatest radius
)

// of is the vector with these coordinates.
func of(x, y, z int) api.Vec { return api.Vec{X: x, Y: y, Z: z} }

// fraction is n / d.
func fraction(n, d int) api.Frac { return api.Frac{N: n, D: d} }

// hit is the one of the thing with that index, at n / d.
func hit(index, n, d int) api.Hit { return api.Hit{Prim: index, T: fraction(n, d)} }

// leaving is the ray from o along d that leaves the thing with that index.
func leaving(index int, o, d api.Vec) api.Ray { return api.Ray{O: o, D: d, From: index} }

// up is the ray from (1, 1, 0) along (0, 0, 1) that leaves the thing with that index.
func up(index int) api.Ray { return leaving(index, of(1, 1, 0), of(0, 0, 1)) }

// triangle is the thing with these corners.
func triangle(a, b, c api.Vec) api.Prim { return api.Prim{Kind: 1, A: a, B: b, C: c} }

// round is the ball around c of the radius r.
func round(c api.Vec, r int) api.Prim { return api.Prim{Kind: 2, A: c, R: r} }

// sheet is the triangle at the height z with sides of that length, which up meets at z * side * side / (side * side).
func sheet(z, side int) api.Prim {
	return triangle(of(0, 0, z), of(side, 0, z), of(0, side, z))
}

// globe is the ball of the radius r whose center is at the height z, which up meets at (z - r) / 1, or at (z + r) / 1 from inside.
func globe(z, r int) api.Prim { return round(of(1, 1, z), r) }

// beside is a triangle that up does not meet.
func beside(z int) api.Prim { return triangle(of(10, 10, z), of(14, 10, z), of(10, 14, z)) }

// changed is p after change.
func changed(p api.Prim, change func(p *api.Prim)) api.Prim {
	change(&p)
	return p
}

// broken holds what is not valid, each but for one thing, though up would meet it before anything else.
func broken() []api.Prim {
	s, b := sheet(1, 8), globe(9, 8)
	return []api.Prim{
		{}, changed(s, func(p *api.Prim) { p.Kind = 0 }), changed(b, func(p *api.Prim) { p.Kind = 3 }), changed(s, func(p *api.Prim) { p.Kind = 2 }), changed(b, func(p *api.Prim) { p.Kind = 1 }),
		changed(s, func(p *api.Prim) { p.Mat = 64 }), changed(b, func(p *api.Prim) { p.Mat = -1 }), changed(s, func(p *api.Prim) { p.R = 5 }), changed(b, func(p *api.Prim) { p.R = 3 }), changed(b, func(p *api.Prim) { p.B = of(0, 0, 1) }), changed(b, func(p *api.Prim) { p.C = of(1, 0, 0) }),
		triangle(of(0, 0, 1), of(2, 2, 1), of(1, 1, 1)), triangle(of(0, 0, 1), of(edge+1, 0, 1), of(0, edge+1, 1)), round(of(1, 1, edge+1), thick), round(of(1, 1, 9), thick+1),
	}
}

// misfits holds rays that begin at no place, or go along what is not near, or nowhere.
func misfits() []api.Ray {
	return []api.Ray{
		leaving(-1, of(edge+1, 1, 0), of(-1, 0, 0)), leaving(-1, of(1, 1, -edge-1), of(0, 0, 1)), leaving(-1, of(1, 1, least), of(0, 0, 1)), leaving(-1, of(1, most, 1), of(0, -1, 0)),
		leaving(-1, of(1, 1, 0), of(0, 0, near+1)), leaving(-1, of(1, 1, 0), of(0, 0, most)), leaving(-1, of(1, 1, 0), of(near+1, 0, 1)), leaving(-1, of(1, 1, 0), of(0, least, 1)),
		leaving(-1, of(1, 1, 0), of(0, 0, 0)), leaving(0, of(1, 1, 0), of(0, 0, 0)),
	}
}

// compared is -1, 0 or 1, as a is less than, equal to, or greater than b, by exact numbers; both are valid.
func compared(a, b api.Frac) int {
	exact := func(n, m int) *big.Int { return new(big.Int).Mul(big.NewInt(int64(n)), big.NewInt(int64(m))) }
	return exact(a.N, b.D).Cmp(exact(b.N, a.D))
}

// ahead tells whether a is better than b, by exact numbers.
func ahead(a, b api.Hit) bool {
	if a.T.D < 1 || b.T.D < 1 {
		return false
	}
	order := compared(a.T, b.T)
	return order < 0 || order == 0 && a.Prim < b.Prim
}

// met holds the hits of those of l that have an index in which, in the order of which.
func met(l []api.Prim, which []int, r api.Ray) []api.Hit {
	var all []api.Hit
	for _, index := range which {
		if index < 0 || index >= len(l) {
			continue
		}
		if t, ok := prim.Hit(l[index], index, r); ok {
			all = append(all, api.Hit{Prim: index, T: t})
		}
	}
	return all
}

// places holds the indices of a list of that length.
func places(length int) []int {
	var all []int
	for place := range length {
		all = append(all, place)
	}
	return all
}

// unbeaten is the one of all than which none is better; zero if there is none.
func unbeaten(all []api.Hit) api.Hit {
	for _, a := range all {
		if !slices.ContainsFunc(all, func(b api.Hit) bool { return ahead(b, a) }) {
			return a
		}
	}
	return api.Hit{}
}

// view is a list and a ray.
type view struct {
	l []api.Prim
	r api.Ray
}

// maker makes things and rays without a pattern.
type maker struct{ random *rand.Rand }

// made makes them by a number.
func made(number uint64) maker { return maker{rand.New(rand.NewPCG(14, number))} }

// point is a vector with coordinates from -bound to bound.
func (m maker) point(bound int) api.Vec {
	below := func() int { return m.random.IntN(2*bound+1) - bound }
	return of(below(), below(), below())
}

// thing is a triangle or a ball, or now and then what is not valid, within bound.
func (m maker) thing(bound int) api.Prim {
	all := broken()
	switch m.random.IntN(8) {
	case 0:
		return all[m.random.IntN(len(all))]
	case 1, 2, 3:
		return round(m.point(bound), max(4, min(thick, bound/(1+m.random.IntN(4)))))
	}
	return triangle(m.point(bound), m.point(bound), m.point(bound))
}

// things holds up to 12 of them, of which some stand there twice.
func (m maker) things(bound int) []api.Prim {
	var l []api.Prim
	for range m.random.IntN(13) {
		if len(l) > 0 && m.random.IntN(4) == 0 {
			l = append(l, l[m.random.IntN(len(l))])
			continue
		}
		l = append(l, m.thing(bound))
	}
	return l
}

// ray is one from anywhere, or from a corner or the center of a thing of l, to anywhere or to such a point, that leaves a thing of l or none.
func (m maker) ray(l []api.Prim, bound int) api.Ray {
	end := func() api.Vec {
		if len(l) == 0 || m.random.IntN(3) == 0 {
			return m.point(bound)
		}
		p := l[m.random.IntN(len(l))]
		return []api.Vec{p.A, p.B, p.C, prim.Point(p, 20000, 30000)}[m.random.IntN(4)]
	}
	o, to := end(), end()
	d := of(to.X-o.X, to.Y-o.Y, to.Z-o.Z)
	return leaving(m.random.IntN(len(l)+2)-1, o, d)
}

// views holds lists of every size, with rays of every kind.
func views() []view {
	var all []view
	for _, bound := range []int{6, 9, 30, 1000, edge} {
		m := made(uint64(bound))
		for range 120 {
			l := m.things(bound)
			for range 10 {
				all = append(all, view{l: l, r: m.ray(l, bound)})
			}
		}
		all = append(all, view{l: m.things(bound), r: misfits()[m.random.IntN(len(misfits()))]})
	}
	return all
}

// TestBetter: P14.1, by cases: a hit against itself, one fraction and unlike indices, unlike fractions and either order of indices, and fractions that are not valid.
func TestBetter(t *testing.T) {
	for _, c := range []struct {
		a, b api.Hit
		want bool
	}{
		{hit(3, 1, 2), hit(3, 1, 2), false}, {hit(3, 1, 2), hit(3, 2, 4), false}, {hit(0, 0, 1), hit(0, 0, 1), false}, {api.Hit{}, api.Hit{}, false}, {hit(-1, -5, 3), hit(-1, -5, 3), false},
		{hit(2, 1, 2), hit(3, 1, 2), true}, {hit(3, 1, 2), hit(2, 1, 2), false}, {hit(2, 3, 6), hit(3, 1, 2), true}, {hit(3, 3, 6), hit(2, 1, 2), false}, {hit(-1, 1, 2), hit(0, 5, 10), true}, {hit(0, 1, 2), hit(-1, 5, 10), false}, {hit(least, 1, 2), hit(most, 1, 2), true}, {hit(most, 1, 2), hit(least, 1, 2), false}, {hit(0, 0, 7), hit(1, 0, 1), true}, {hit(1, 0, 7), hit(0, 0, 1), false},
		{hit(2, 1, 3), hit(3, 1, 2), true}, {hit(3, 1, 3), hit(2, 1, 2), true}, {hit(2, 1, 2), hit(3, 1, 3), false}, {hit(3, 1, 2), hit(2, 1, 3), false}, {hit(3, 1, 3), hit(3, 1, 2), true}, {hit(3, 1, 2), hit(3, 1, 3), false},
		{hit(9, -1, 2), hit(0, 0, 1), true}, {hit(0, 0, 1), hit(9, -1, 2), false}, {hit(9, -1, 2), hit(0, -1, 3), true}, {hit(9, 100, 201), hit(0, 1, 2), true}, {hit(0, 100, 199), hit(9, 1, 2), false},
		{hit(9, most, most-1), hit(0, most-1, most-2), true}, {hit(0, most-1, most-2), hit(9, most, most-1), false}, {hit(9, least, most), hit(0, least+1, most), true}, {hit(9, least, 1), hit(0, most, 1), true}, {hit(0, most, 1), hit(9, least, 1), false}, {hit(1, most, most), hit(2, 1, 1), true}, {hit(2, most, most), hit(1, 1, 1), false},
		{hit(0, 1, 0), hit(1, 1, 2), false}, {hit(0, 1, 2), hit(1, 1, 0), false}, {hit(1, 1, 2), hit(0, 1, 0), false}, {hit(0, 1, 0), hit(1, 1, 0), false}, {hit(0, 1, -2), hit(1, 1, 2), false}, {hit(0, 1, 2), hit(1, -1, -2), false}, {hit(0, -1, -2), hit(1, -1, -2), false}, {hit(0, -9, least), hit(1, 1, 2), false}, {hit(0, 0, 0), hit(1, 0, 0), false}, {hit(0, 0, 0), hit(1, 0, 1), false},
	} {
		if got := plain.Better(c.a, c.b); got != c.want {
			t.Errorf("%v is better than %v: %t", c.a, c.b, got)
		}
	}
}

// TestBetterWide: P14.1, numbers of every size, of which no product fits an int: against exact numbers; of two unlike hits just one is better, unless a fraction is not valid.
func TestBetterWide(t *testing.T) {
	var all []api.Hit
	numbers := []int{0, 1, -1, 2, 3, -3, 1 << 32, 1<<32 + 1, 1 << 62, most - 1, most, least + 1, least}
	for place, n := range numbers {
		for _, d := range numbers {
			all = append(all, hit([]int{0, 1, -1, 5, 1023, most, least}[place%7], n, d), hit(5, n, d))
		}
	}
	equal := 0
	for _, a := range all {
		for _, b := range all {
			got, back := plain.Better(a, b), plain.Better(b, a)
			if got != ahead(a, b) {
				t.Fatalf("%v is better than %v: %t", a, b, got)
			}
			if got && back {
				t.Fatalf("%v and %v are better than each other", a, b)
			}
			if a.T.D < 1 || b.T.D < 1 {
				continue
			}
			if even := compared(a.T, b.T) == 0; !got && !back && (!even || a.Prim != b.Prim) {
				t.Fatalf("neither %v nor %v is better", a, b)
			} else if even && a.T != b.T && got {
				equal++
			}
		}
	}
	if equal < 100 {
		t.Errorf("there are %d pairs of one fraction by unlike numbers", equal)
	}
}

// TestAll: P14.1, by cases: no list, nothing that is met, what is not valid among the others, things at one fraction, and the same thing twice.
func TestAll(t *testing.T) {
	low, high, ball := sheet(3, 4), sheet(5, 8), globe(20, 8)
	for _, c := range []struct {
		l    []api.Prim
		r    api.Ray
		want []api.Hit
	}{
		{nil, up(-1), nil}, {[]api.Prim{}, up(-1), nil}, {nil, up(0), nil}, {[]api.Prim{{}}, up(-1), nil}, {broken(), up(-1), nil},
		{[]api.Prim{beside(1), beside(2), sheet(-4, 4), globe(-9, 8)}, up(-1), nil}, {[]api.Prim{sheet(0, 4)}, up(-1), nil},
		{[]api.Prim{low}, up(-1), []api.Hit{hit(0, 48, 16)}}, {[]api.Prim{low, high, ball}, up(-1), []api.Hit{hit(0, 48, 16), hit(1, 320, 64), hit(2, 12, 1)}}, {[]api.Prim{ball, high, low}, up(-1), []api.Hit{hit(0, 12, 1), hit(1, 320, 64), hit(2, 48, 16)}},
		{[]api.Prim{low, beside(1), high, sheet(-4, 4), {}, ball}, up(-1), []api.Hit{hit(0, 48, 16), hit(2, 320, 64), hit(5, 12, 1)}}, {append(broken(), high, low), up(-1), []api.Hit{hit(15, 320, 64), hit(16, 48, 16)}}, {append([]api.Prim{high, low}, broken()...), up(-1), []api.Hit{hit(0, 320, 64), hit(1, 48, 16)}},
		{[]api.Prim{low, low, sheet(3, 8), globe(11, 8)}, up(-1), []api.Hit{hit(0, 48, 16), hit(1, 48, 16), hit(2, 192, 64), hit(3, 3, 1)}},
		{[]api.Prim{low, high, ball}, up(0), []api.Hit{hit(1, 320, 64), hit(2, 12, 1)}}, {[]api.Prim{low, high, ball}, up(1), []api.Hit{hit(0, 48, 16), hit(2, 12, 1)}}, {[]api.Prim{low, high, ball}, up(2), []api.Hit{hit(0, 48, 16), hit(1, 320, 64), hit(2, 40, 1)}}, {[]api.Prim{low, high, ball}, up(3), []api.Hit{hit(0, 48, 16), hit(1, 320, 64), hit(2, 12, 1)}},
		{[]api.Prim{low, low}, up(0), []api.Hit{hit(1, 48, 16)}}, {[]api.Prim{low, low}, up(1), []api.Hit{hit(0, 48, 16)}}, {[]api.Prim{low}, up(0), nil},
		{[]api.Prim{globe(4, 8), high}, up(-1), []api.Hit{hit(0, 12, 1), hit(1, 320, 64)}}, {[]api.Prim{globe(4, 8), high}, up(0), []api.Hit{hit(0, 8, 1), hit(1, 320, 64)}}, {[]api.Prim{globe(-4, 8), high}, up(0), []api.Hit{hit(1, 320, 64)}}, {[]api.Prim{globe(-4, 8), high}, up(1), []api.Hit{hit(0, 4, 1)}},
		{[]api.Prim{low, ball}, leaving(-1, of(1, 1, 0), of(0, 0, near)), []api.Hit{hit(0, 48, 16*near), hit(1, 12*near, near*near)}},
	} {
		if got := plain.All(c.l, c.r); !slices.Equal(got, c.want) {
			t.Errorf("all that %v meets of %v: %v, not %v", c.r, c.l, got, c.want)
		}
	}
}

// TestClosest: P14.1, by cases: the chapter's empty list, nothing that is met, what is not valid among the others, one fraction in both orders of the list, and every kind of ray.
func TestClosest(t *testing.T) {
	low, high, ball := sheet(3, 4), sheet(5, 8), globe(20, 8)
	none := api.Hit{}
	for _, c := range []struct {
		l    []api.Prim
		r    api.Ray
		want api.Hit
	}{
		{nil, up(-1), none}, {[]api.Prim{}, up(-1), none}, {nil, up(0), none}, // the chapter's example
		{[]api.Prim{{}}, up(-1), none}, {broken(), up(-1), none}, {[]api.Prim{beside(1), beside(2), sheet(-4, 4), globe(-9, 8)}, up(-1), none}, {[]api.Prim{sheet(0, 4)}, up(-1), none},
		{[]api.Prim{low}, up(-1), hit(0, 48, 16)}, {[]api.Prim{ball}, up(-1), hit(0, 12, 1)}, {[]api.Prim{low, high, ball}, up(-1), hit(0, 48, 16)}, {[]api.Prim{high, low, ball}, up(-1), hit(1, 48, 16)}, {[]api.Prim{ball, high, low}, up(-1), hit(2, 48, 16)}, {[]api.Prim{high, ball}, up(-1), hit(0, 320, 64)}, {[]api.Prim{ball, high}, up(-1), hit(1, 320, 64)}, {[]api.Prim{globe(10, 8), high, low}, up(-1), hit(0, 2, 1)},
		{append(broken(), high, low), up(-1), hit(16, 48, 16)}, {append([]api.Prim{high, low}, broken()...), up(-1), hit(1, 48, 16)}, {[]api.Prim{{}, beside(1), high, {}, low, {}}, up(-1), hit(4, 48, 16)},
		{[]api.Prim{sheet(3, 8), low}, up(-1), hit(0, 192, 64)}, {[]api.Prim{low, sheet(3, 8)}, up(-1), hit(0, 48, 16)}, {[]api.Prim{low, globe(11, 8)}, up(-1), hit(0, 48, 16)}, {[]api.Prim{globe(11, 8), low}, up(-1), hit(0, 3, 1)}, {[]api.Prim{high, globe(11, 8), high, low}, up(-1), hit(1, 3, 1)}, {[]api.Prim{low, low}, up(-1), hit(0, 48, 16)}, {[]api.Prim{high, low, ball, low}, up(-1), hit(1, 48, 16)}, {[]api.Prim{ball, ball}, up(-1), hit(0, 12, 1)},
		{[]api.Prim{low, high, ball}, up(0), hit(1, 320, 64)}, {[]api.Prim{low, high, ball}, up(1), hit(0, 48, 16)}, {[]api.Prim{low, high, ball}, up(2), hit(0, 48, 16)}, {[]api.Prim{low, high, ball}, up(3), hit(0, 48, 16)}, {[]api.Prim{low, high, ball}, up(-3), hit(0, 48, 16)}, {[]api.Prim{low}, up(0), none}, {[]api.Prim{low, low}, up(0), hit(1, 48, 16)}, {[]api.Prim{low, low}, up(1), hit(0, 48, 16)},
		{[]api.Prim{globe(10, 8), high}, up(-1), hit(0, 2, 1)}, {[]api.Prim{globe(10, 8), high}, up(0), hit(1, 320, 64)}, {[]api.Prim{globe(10, 8), high}, up(1), hit(0, 2, 1)}, {[]api.Prim{globe(8, 8), sheet(20, 4)}, up(0), hit(0, 16, 1)}, {[]api.Prim{ball}, up(0), hit(0, 40, 1)}, {[]api.Prim{globe(-8, 8)}, up(0), none}, {[]api.Prim{ball, ball}, up(0), hit(1, 12, 1)}, {[]api.Prim{ball, ball}, up(1), hit(0, 12, 1)},
		{[]api.Prim{globe(4, 8)}, up(-1), hit(0, 12, 1)}, {[]api.Prim{globe(4, 8)}, up(0), hit(0, 8, 1)}, {[]api.Prim{globe(-4, 8)}, up(-1), hit(0, 4, 1)}, {[]api.Prim{globe(-4, 8)}, up(0), none}, {[]api.Prim{globe(0, 8), high}, up(-1), hit(1, 320, 64)}, {[]api.Prim{globe(-4, 8), high}, up(-1), hit(0, 4, 1)}, {[]api.Prim{globe(4, 8), globe(0, 4), globe(1, 9)}, up(-1), hit(1, 4, 1)}, // from inside
		{[]api.Prim{low, ball}, leaving(-1, of(1, 1, 0), of(0, 0, near)), hit(0, 48, 16*near)}, {[]api.Prim{low, ball}, leaving(-1, of(1, 1, edge), of(0, 0, -1)), hit(1, 524260, 1)},
	} {
		got, ok := plain.Closest(c.l, c.r)
		if got != c.want || ok != (c.want != none) {
			t.Errorf("the closest that %v meets of %v: %v, %t, not %v", c.r, c.l, got, ok, c.want)
		}
	}
}

// TestMisfits: P14.1 and P14.2, a ray that begins at no place, or goes along what is not near, or nowhere, meets nothing, wherever things are.
func TestMisfits(t *testing.T) {
	l := []api.Prim{sheet(3, 4), globe(20, 8), round(of(0, 0, 0), thick), round(of(edge, 1, 0), thick), triangle(of(-edge, -edge, -edge), of(edge, -edge, -edge), of(-edge, edge, -edge)), triangle(of(-edge, edge, -edge), of(edge, edge, -edge), of(-edge, edge, edge))}
	for _, r := range misfits() {
		if got := plain.All(l, r); len(got) != 0 {
			t.Errorf("%v meets %v", r, got)
		}
		if got, ok := plain.Closest(l, r); ok || got != (api.Hit{}) {
			t.Errorf("%v meets as the closest one %v, %t", r, got, ok)
		}
		if got, ok := plain.Among(l, places(len(l)), r); ok || got != (api.Hit{}) {
			t.Errorf("%v meets as the closest one among all %v, %t", r, got, ok)
		}
		if plain.Any(l, r, api.Frac{}) || plain.Any(l, r, fraction(most, 1)) {
			t.Errorf("%v meets something", r)
		}
	}
}

// TestWide: P14.1 and P14.3, lists of every size: all hits in the order of the things, and the one than which none of them is better, by exact numbers.
func TestWide(t *testing.T) {
	counts, ties := [4]int{}, 0
	for _, v := range views() {
		want := met(v.l, places(len(v.l)), v.r)
		all := plain.All(v.l, v.r)
		if !slices.Equal(all, want) {
			t.Fatalf("all that %v meets of %v: %v, not %v", v.r, v.l, all, want)
		}
		counts[min(len(want), 3)]++
		got, ok := plain.Closest(v.l, v.r)
		if got != unbeaten(want) || ok != (len(want) > 0) {
			t.Fatalf("the closest that %v meets of %v: %v, %t, not %v", v.r, v.l, got, ok, unbeaten(want))
		}
		for _, other := range all {
			if plain.Better(other, got) {
				t.Fatalf("%v is better than the closest one %v, of what %v meets of %v", other, got, v.r, v.l)
			}
			if other.Prim != got.Prim && compared(other.T, got.T) == 0 {
				ties++
			}
		}
	}
	if slices.Min(counts[:]) < 500 || ties < 500 {
		t.Errorf("there are %v views in which 0, 1, 2 or more things are met, and %d ties", counts, ties)
	}
}

// TestKept: P14.1 and P14.2, no list is changed, what lies beyond its length does not count, and each list of hits is a new one.
func TestKept(t *testing.T) {
	l, which := []api.Prim{sheet(5, 8), sheet(3, 4), globe(10, 8), {}}, []int{2, -1, 1, 9, 0, 1}
	things, indices := slices.Clone(l), slices.Clone(which)
	first, second := plain.All(l, up(-1)), plain.All(l, up(-1))
	second[0].Prim = 77
	if want := []api.Hit{hit(0, 320, 64), hit(1, 48, 16), hit(2, 2, 1)}; !slices.Equal(first, want) || !slices.Equal(plain.All(l, up(-1)), want) {
		t.Errorf("all that is met: %v, not %v, after another answer was changed", first, want)
	}
	if got := plain.All(l[:1], up(-1)); !slices.Equal(got, []api.Hit{hit(0, 320, 64)}) {
		t.Errorf("all that is met of the first thing: %v", got)
	}
	if got, ok := plain.Closest(l[:2], up(-1)); got != hit(1, 48, 16) || !ok {
		t.Errorf("the closest one of the first two things: %v, %t", got, ok)
	}
	if plain.Any(l[:2], up(-1), fraction(3, 1)) || !plain.Any(l[:3], up(-1), fraction(3, 1)) {
		t.Error("what is met before 3 is not the third thing")
	}
	if got, ok := plain.Among(l[:2], which, up(-1)); got != hit(1, 48, 16) || !ok {
		t.Errorf("the closest one among some of the first two things: %v, %t", got, ok)
	}
	if got, ok := plain.Among(l, which[1:2], up(-1)); got != (api.Hit{}) || ok {
		t.Errorf("the closest one among none: %v, %t", got, ok)
	}
	plain.Among(l, which, up(-1))
	if !slices.Equal(l, things) || !slices.Equal(which, indices) {
		t.Errorf("the lists are now %v and %v", l, which)
	}
}
