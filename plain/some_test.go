package plain_test

import (
	"slices"
	"testing"

	"skylight/api"
	"skylight/plain"
	"skylight/prim"
)

// TestAny: P14.2, by cases: limits that are not valid, the very least fraction, just above and just below it, by its numbers and by others, and every kind of list and ray.
func TestAny(t *testing.T) {
	low, high, ball := sheet(3, 4), sheet(5, 8), globe(20, 8)
	all := []api.Prim{high, low, ball}
	for _, c := range []struct {
		l    []api.Prim
		r    api.Ray
		most api.Frac
		want bool
	}{
		{nil, up(-1), api.Frac{}, false}, {[]api.Prim{}, up(-1), fraction(9, 1), false}, {nil, up(-1), fraction(most, 1), false}, {[]api.Prim{beside(1), sheet(-4, 4), {}}, up(-1), api.Frac{}, false}, {[]api.Prim{beside(1), sheet(-4, 4), {}}, up(-1), fraction(most, 1), false}, {broken(), up(-1), api.Frac{}, false}, {broken(), up(-1), fraction(most, 1), false},
		{all, up(-1), api.Frac{}, true}, {all, up(-1), fraction(1, 0), true}, {all, up(-1), fraction(-9, 0), true}, {all, up(-1), fraction(1, -1), true}, {all, up(-1), fraction(-1, -9), true}, {all, up(-1), fraction(0, least), true}, {all, up(-1), fraction(least, least), true}, {[]api.Prim{beside(1), {}, ball}, up(-1), api.Frac{}, true},
		{all, up(-1), fraction(48, 16), false}, {all, up(-1), fraction(3, 1), false}, {all, up(-1), fraction(49, 16), true}, {all, up(-1), fraction(47, 16), false}, {all, up(-1), fraction(480001, 160000), true}, {all, up(-1), fraction(479999, 160000), false}, {all, up(-1), fraction(3<<60+1, 1<<60), true}, {all, up(-1), fraction(3<<60, 1<<60), false}, {all, up(-1), fraction(3<<60-1, 1<<60), false},
		{all, up(-1), fraction(4, 1), true}, {all, up(-1), fraction(5, 1), true}, {all, up(-1), fraction(6, 1), true}, {all, up(-1), fraction(most, 1), true}, {all, up(-1), fraction(0, 1), false}, {all, up(-1), fraction(1, most), false}, {all, up(-1), fraction(-1, 1), false}, {all, up(-1), fraction(least, 1), false}, {all, up(-1), fraction(-1, most), false},
		{[]api.Prim{low, low, globe(11, 8)}, up(-1), fraction(3, 1), false}, {[]api.Prim{low, low, globe(11, 8)}, up(-1), fraction(301, 100), true}, {[]api.Prim{ball}, up(-1), fraction(12, 1), false}, {[]api.Prim{ball}, up(-1), fraction(121, 10), true}, {[]api.Prim{ball}, up(-1), fraction(119, 10), false},
		{all, up(1), fraction(5, 1), false}, {all, up(1), fraction(51, 10), true}, {all, up(0), fraction(5, 1), true}, {all, up(3), fraction(31, 10), true}, {[]api.Prim{low}, up(0), api.Frac{}, false}, {[]api.Prim{low}, up(0), fraction(most, 1), false}, {[]api.Prim{ball}, up(0), fraction(40, 1), false}, {[]api.Prim{ball}, up(0), fraction(41, 1), true}, {[]api.Prim{globe(-8, 8)}, up(0), api.Frac{}, false},
		{[]api.Prim{globe(4, 8)}, up(-1), fraction(12, 1), false}, {[]api.Prim{globe(4, 8)}, up(-1), fraction(121, 10), true}, {[]api.Prim{globe(4, 8)}, up(0), fraction(8, 1), false}, {[]api.Prim{globe(4, 8)}, up(0), fraction(9, 1), true}, {[]api.Prim{globe(-4, 8)}, up(0), api.Frac{}, false}, // from inside
		{append(broken(), high, low), up(-1), fraction(4, 1), true}, {append(broken(), high, low), up(-1), fraction(3, 1), false}, {append([]api.Prim{high, low}, broken()...), up(-1), fraction(3, 1), false}, {append([]api.Prim{high, low}, broken()...), up(-1), fraction(4, 1), true},
		{all, leaving(-1, of(1, 1, 0), of(0, 0, near)), fraction(3, near), false}, {all, leaving(-1, of(1, 1, 0), of(0, 0, near)), fraction(4, near), true},
	} {
		if got := plain.Any(c.l, c.r, c.most); got != c.want {
			t.Errorf("%v meets something of %v before %v: %t", c.r, c.l, c.most, got)
		}
	}
}

// TestAnyWide: P14.2, lists of every size: before each fraction at which something is met, before one just above and one just below it, and before what is not valid.
func TestAnyWide(t *testing.T) {
	yes, no := 0, 0
	for _, v := range views() {
		all := met(v.l, places(len(v.l)), v.r)
		limits := []api.Frac{{}, fraction(5, -1), fraction(most, 1), fraction(0, 1), fraction(-3, 2), fraction(1, 2)}
		for _, h := range all {
			limits = append(limits, h.T, fraction(h.T.N-1, h.T.D), fraction(h.T.N+1, h.T.D))
			if h.T.D < 1<<40 && h.T.N < 1<<40 {
				limits = append(limits, fraction(3*h.T.N, 3*h.T.D), fraction(h.T.N<<20+1, h.T.D<<20), fraction(h.T.N<<20-1, h.T.D<<20))
			}
		}
		for _, limit := range limits {
			want := slices.ContainsFunc(all, func(h api.Hit) bool { return limit.D < 1 || compared(h.T, limit) < 0 })
			if got := plain.Any(v.l, v.r, limit); got != want {
				t.Fatalf("%v meets something of %v before %v: %t", v.r, v.l, limit, got)
			}
			if want {
				yes++
			} else {
				no++
			}
		}
	}
	if yes < 5000 || no < 5000 {
		t.Errorf("something was met %d times, and nothing %d times", yes, no)
	}
}

// TestAmong: P14.2, by cases: indices that no thing has, in any order, twice, and none; the index of the hit, and the one that a ray leaves, are those in the list.
func TestAmong(t *testing.T) {
	l := []api.Prim{sheet(9, 4), sheet(3, 8), globe(20, 8), sheet(3, 4), {}, beside(1), sheet(5, 4), globe(11, 8)}
	none := api.Hit{}
	for _, c := range []struct {
		which []int
		r     api.Ray
		want  api.Hit
	}{
		{nil, up(-1), none}, {[]int{}, up(-1), none}, {[]int{-1}, up(-1), none}, {[]int{8}, up(-1), none}, {[]int{least, most, -8, 9, 1 << 32, -1 << 32, 1<<32 + 1}, up(-1), none}, {[]int{4, 5}, up(-1), none}, {[]int{4, -1, 5, 8, 4}, up(-1), none},
		{[]int{0}, up(-1), hit(0, 144, 16)}, {[]int{1}, up(-1), hit(1, 192, 64)}, {[]int{2}, up(-1), hit(2, 12, 1)}, {[]int{6}, up(-1), hit(6, 80, 16)}, {[]int{7}, up(-1), hit(7, 3, 1)}, {[]int{7, 7, 7}, up(-1), hit(7, 3, 1)}, {[]int{2, 2}, up(-1), hit(2, 12, 1)},
		{[]int{0, 2}, up(-1), hit(0, 144, 16)}, {[]int{2, 0}, up(-1), hit(0, 144, 16)}, {[]int{2, 6, 0}, up(-1), hit(6, 80, 16)}, {[]int{6, 0, 2}, up(-1), hit(6, 80, 16)}, {[]int{0, 2, 6}, up(-1), hit(6, 80, 16)}, {[]int{2, 0, 2, 0}, up(-1), hit(0, 144, 16)},
		{[]int{3, 1}, up(-1), hit(1, 192, 64)}, {[]int{1, 3}, up(-1), hit(1, 192, 64)}, {[]int{7, 3}, up(-1), hit(3, 48, 16)}, {[]int{3, 7}, up(-1), hit(3, 48, 16)}, {[]int{7, 3, 1}, up(-1), hit(1, 192, 64)}, {[]int{7, 6, 5, 4, 3, 2, 1, 0}, up(-1), hit(1, 192, 64)}, {[]int{0, 1, 2, 3, 4, 5, 6, 7}, up(-1), hit(1, 192, 64)}, {[]int{7, 2, 7}, up(-1), hit(7, 3, 1)},
		{[]int{-1, 2, 8}, up(-1), hit(2, 12, 1)}, {[]int{most, 6, least, 2, -1, 6, 8}, up(-1), hit(6, 80, 16)}, {[]int{5, 4, 0}, up(-1), hit(0, 144, 16)}, {[]int{8, 7}, up(-1), hit(7, 3, 1)},
		{[]int{1}, up(1), none}, {[]int{1}, up(0), hit(1, 192, 64)}, {[]int{3, 1}, up(1), hit(3, 48, 16)}, {[]int{3, 1}, up(3), hit(1, 192, 64)}, {[]int{3, 1}, up(0), hit(1, 192, 64)}, {[]int{6, 0}, up(6), hit(0, 144, 16)}, {[]int{6, 0}, up(0), hit(6, 80, 16)}, {[]int{6, 0}, up(1), hit(6, 80, 16)}, {[]int{6, 6}, up(6), none},
		{[]int{2}, up(2), hit(2, 40, 1)}, {[]int{2}, up(0), hit(2, 12, 1)}, {[]int{2, 7}, up(7), hit(2, 12, 1)}, {[]int{7, 2}, up(2), hit(7, 3, 1)}, {[]int{7}, up(7), hit(7, 22, 1)}, {[]int{-1, 7}, up(-1), hit(7, 3, 1)},
	} {
		got, ok := plain.Among(l, c.which, c.r)
		if got != c.want || ok != (c.want != none) {
			t.Errorf("the closest that %v meets among %v: %v, %t, not %v", c.r, c.which, got, ok, c.want)
		}
	}
	if got, ok := plain.Among(nil, []int{0, 1, -1}, up(-1)); got != none || ok {
		t.Errorf("the closest one of no list: %v, %t", got, ok)
	}
	inside := []api.Prim{globe(4, 8), globe(-4, 8), globe(0, 9)}
	for _, c := range []struct {
		which []int
		from  int
		want  api.Hit
	}{{[]int{2, 0}, -1, hit(2, 9, 1)}, {[]int{2, 1, 0}, -1, hit(1, 4, 1)}, {[]int{2, 1, 0}, 1, hit(2, 9, 1)}, {[]int{2, 0}, 0, hit(0, 8, 1)}, {[]int{1}, 1, none}, {[]int{2}, 2, none}} {
		if got, ok := plain.Among(inside, c.which, up(c.from)); got != c.want || ok != (c.want != none) {
			t.Errorf("the closest that a ray from inside, which leaves %d, meets among %v: %v, %t, not %v", c.from, c.which, got, ok, c.want)
		}
	}
}

// TestAmongWide: P14.2, some of lists of every size, in any order, twice, and with indices that there are not; all of them, in any order, are the whole list.
func TestAmongWide(t *testing.T) {
	m := made(0)
	hits, misses := 0, 0
	for _, v := range views() {
		var which []int
		for range m.random.IntN(8) {
			which = append(which, m.random.IntN(len(v.l)+4)-2)
		}
		want := unbeaten(met(v.l, which, v.r))
		got, ok := plain.Among(v.l, which, v.r)
		if got != want || ok != (want != api.Hit{}) {
			t.Fatalf("the closest that %v meets of %v among %v: %v, %t, not %v", v.r, v.l, which, got, ok, want)
		}
		if ok {
			hits++
		} else {
			misses++
		}
		whole := places(len(v.l))
		m.random.Shuffle(len(whole), func(i, j int) { whole[i], whole[j] = whole[j], whole[i] })
		closest, found := plain.Closest(v.l, v.r)
		if got, ok := plain.Among(v.l, whole, v.r); got != closest || ok != found {
			t.Fatalf("the closest that %v meets of %v among all, as %v: %v, %t, not %v, %t", v.r, v.l, whole, got, ok, closest, found)
		}
	}
	if hits < 1000 || misses < 1000 {
		t.Errorf("there are %d hits and %d misses", hits, misses)
	}
}

// TestAppended: P14.3, by cases: a thing that is appended behind the closest one, at its fraction, ahead of it, and not met.
func TestAppended(t *testing.T) {
	l := []api.Prim{sheet(9, 8), sheet(5, 4), globe(20, 8)}
	for _, c := range []struct {
		p    api.Prim
		from int
		want api.Hit
	}{
		{sheet(6, 4), -1, hit(1, 80, 16)}, {globe(14, 8), -1, hit(1, 80, 16)}, {sheet(9, 8), -1, hit(1, 80, 16)},
		{sheet(5, 4), -1, hit(1, 80, 16)}, {sheet(5, 8), -1, hit(1, 80, 16)}, {globe(13, 8), -1, hit(1, 80, 16)},
		{sheet(4, 4), -1, hit(3, 64, 16)}, {globe(12, 8), -1, hit(3, 4, 1)}, {globe(-4, 8), -1, hit(3, 4, 1)},
		{beside(1), -1, hit(1, 80, 16)}, {sheet(-4, 4), -1, hit(1, 80, 16)}, {api.Prim{}, -1, hit(1, 80, 16)}, {broken()[5], -1, hit(1, 80, 16)},
		{sheet(4, 4), 3, hit(1, 80, 16)}, {globe(12, 8), 3, hit(1, 80, 16)}, {globe(2, 8), 3, hit(3, 4, 1)}, {sheet(5, 8), 1, hit(3, 320, 64)}, {sheet(9, 4), 1, hit(0, 576, 64)}, {sheet(8, 4), 1, hit(3, 128, 16)},
	} {
		got, ok := plain.Closest(append(slices.Clone(l), c.p), up(c.from))
		if got != c.want || !ok {
			t.Errorf("the closest one, after %v was appended, by a ray that leaves %d: %v, %t, not %v", c.p, c.from, got, ok, c.want)
		}
	}
	if got, ok := plain.Closest([]api.Prim{beside(3), sheet(6, 4)}, up(-1)); got != hit(1, 96, 16) || !ok {
		t.Errorf("the closest one, after one was appended to a list of which nothing is met: %v, %t", got, ok)
	}
}

// TestAppendedWide: P14.3, to lists of every size a thing is appended, also one that is there already: it is the closest one then if, and only if, its hit is better.
func TestAppendedWide(t *testing.T) {
	m, all := made(1), views()
	replaced, behind, even, missed := 0, 0, 0, 0
	for place, v := range all {
		p := m.thing([]int{6, 9, 30, 1000, edge}[place*5/len(all)])
		if len(v.l) > 0 && place%3 == 0 {
			p = v.l[m.random.IntN(len(v.l))]
		}
		want, found := plain.Closest(v.l, v.r)
		frac, ok := prim.Hit(p, len(v.l), v.r)
		h := api.Hit{Prim: len(v.l), T: frac}
		switch {
		case !ok:
			missed++
		case !found || plain.Better(h, want):
			want = h
			replaced++
		case compared(h.T, want.T) == 0:
			even++
		default:
			behind++
		}
		got, is := plain.Closest(append(slices.Clone(v.l), p), v.r)
		if got != want || is != (found || ok) {
			t.Fatalf("the closest that %v meets of %v, after %v was appended: %v, %t, not %v", v.r, v.l, p, got, is, want)
		}
	}
	if min(replaced, behind, even, missed) < 200 {
		t.Errorf("the appended thing was ahead %d times, behind %d times, at one fraction %d times, and not met %d times", replaced, behind, even, missed)
	}
}
