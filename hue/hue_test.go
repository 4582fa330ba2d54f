package hue_test

import (
	"math"
	"math/big"
	"math/rand/v2"
	"slices"
	"testing"

	"skylight/api"
	"skylight/hue"
)

const (
	least    = math.MinInt
	most     = math.MaxInt
	full     = 65536   // as far as the channels of colors go
	heaviest = 1 << 40 // as far as those of weights go
)

// of is the color, or the weight, with these channels.
func of(r, g, b int) api.RGB { return api.RGB{R: r, G: g, B: b} }

// list holds the channels of w.
func list(w api.RGB) [3]int { return [3]int{w.R, w.G, w.B} }

// grid holds all that have their channels out of numbers.
func grid(numbers ...int) []api.RGB {
	var all []api.RGB
	for _, r := range numbers {
		for _, g := range numbers {
			for _, b := range numbers {
				all = append(all, of(r, g, b))
			}
		}
	}
	return all
}

// scattered holds some without a pattern, with channels from 0 to bound.
func scattered(count, bound int) []api.RGB {
	random := rand.New(rand.NewPCG(9, uint64(bound)))
	below := func() int { return random.IntN(bound + 1) }
	var all []api.RGB
	for range count {
		all = append(all, of(below(), below(), below()))
	}
	return all
}

// colors holds colors, many with channels at the edges.
func colors() []api.RGB {
	all := grid(0, 1, 32768, full-1, full)
	return append(all, scattered(60, full)...)
}

// weights holds weights, many with channels at the edges, of all sizes.
func weights() []api.RGB {
	all := grid(0, 1, 99, full, heaviest-1, heaviest)
	for bound := 3; bound < heaviest; bound *= 50 {
		all = append(all, scattered(15, bound)...)
	}
	return append(all, scattered(60, heaviest)...)
}

// strays holds what has a channel below 0 or beyond bound, or more than one.
func strays(bound int) []api.RGB {
	all := []api.RGB{of(-1, -1, -1), of(bound+1, bound+1, bound+1), of(least, least, least), of(most, most, most), of(-1, bound+1, 0)}
	for _, n := range []int{-1, -2, -bound, least, least + 1, -1 << 32, bound + 1, 2 * bound, 1 << 62, most} {
		all = append(all, of(n, 0, 0), of(0, n, 0), of(0, 0, n), of(n, bound, bound), of(bound, n, 7), of(bound, 7, n))
	}
	return all
}

// fractions holds valid ones from 0 on: small ones, great ones, and those with parts that go beyond 2^40.
func fractions() []api.Frac {
	var all []api.Frac
	numbers := []int{1, 2, 3, 7, 65535, full, heaviest - 1, heaviest, heaviest + 1, 1 << 62, most - 1, most}
	for _, d := range numbers {
		all = append(all, api.Frac{N: 0, D: d})
		for _, n := range numbers {
			all = append(all, api.Frac{N: n, D: d})
		}
	}
	return all
}

// TestColorWeight: P9.1, what is a color, and what is a weight, up to both bounds, channel by channel.
func TestColorWeight(t *testing.T) {
	for _, c := range colors() {
		if !hue.Color(c) || !hue.Weight(c) {
			t.Errorf("%v: a color is %t, a weight %t", c, hue.Color(c), hue.Weight(c))
		}
	}
	for _, w := range weights() {
		if want := max(w.R, w.G, w.B) <= full; hue.Color(w) != want || !hue.Weight(w) {
			t.Errorf("%v: a color is %t, a weight %t", w, hue.Color(w), hue.Weight(w))
		}
	}
	for _, c := range strays(full) {
		if hue.Color(c) {
			t.Errorf("%v is a color", c)
		}
	}
	for _, w := range strays(heaviest) {
		if hue.Color(w) || hue.Weight(w) {
			t.Errorf("%v: a color is %t, a weight %t", w, hue.Color(w), hue.Weight(w))
		}
	}
}

// TestMix: P9.1, by cases, with the chapter's example: at the bounds, and with products that are rounded down.
func TestMix(t *testing.T) {
	for _, c := range []struct{ w, c, want api.RGB }{
		{of(100, 100, 100), of(full, 32768, 0), of(100, 50, 0)},
		{of(1, 2, 3), of(full, full, full), of(1, 2, 3)}, {of(1, 2, 3), of(0, 0, 0), of(0, 0, 0)}, {of(0, 0, 0), of(full, 1, 0), of(0, 0, 0)},
		{of(1, 1, 1), of(full-1, 32768, full), of(0, 0, 1)}, {of(3, 3, 3), of(32768, 21845, 21846), of(1, 0, 1)}, {of(full, full, full-1), of(1, full-1, 1), of(1, full-1, 0)},
		{of(heaviest, heaviest, heaviest), of(full, full-1, 1), of(heaviest, heaviest-1<<24, 1<<24)}, {of(heaviest-1, heaviest, 0), of(1, 0, full), of(1<<24-1, 0, 0)},
		{of(10, 0, 0), of(full, 0, 0), of(10, 0, 0)}, {of(0, 10, 0), of(0, full, 0), of(0, 10, 0)}, {of(0, 0, 10), of(0, 0, full), of(0, 0, 10)},
		{of(10, 20, 30), of(0, full, 0), of(0, 20, 0)}, {of(10, 20, 30), of(0, 0, 32768), of(0, 0, 15)},
	} {
		if got := hue.Mix(c.w, c.c); got != c.want {
			t.Errorf("%v, mixed with %v, is %v, not %v", c.w, c.c, got, c.want)
		}
	}
}

// TestMixExact: P9.1, each channel against exact numbers.
func TestMixExact(t *testing.T) {
	for _, w := range weights() {
		for _, c := range colors() {
			var all [3]int
			for channel, n := range list(w) {
				product := new(big.Int).Mul(big.NewInt(int64(n)), big.NewInt(int64(list(c)[channel])))
				all[channel] = int(product.Rsh(product, 16).Int64())
			}
			if got, want := hue.Mix(w, c), of(all[0], all[1], all[2]); got != want {
				t.Fatalf("%v, mixed with %v, is %v, not %v", w, c, got, want)
			}
		}
	}
}

// TestMixStrays: P9.1, what is no weight, or no color, gives zero, in all channels.
func TestMixStrays(t *testing.T) {
	for _, w := range strays(heaviest) {
		for _, c := range []api.RGB{of(0, 0, 0), of(1, 2, 3), of(full, full, full), of(full+1, 0, 0)} {
			if got := hue.Mix(w, c); got != of(0, 0, 0) {
				t.Errorf("%v, mixed with %v, is %v", w, c, got)
			}
		}
	}
	for _, c := range strays(full) {
		for _, w := range []api.RGB{of(0, 0, 0), of(1, 2, 3), of(full, full, full), of(heaviest, heaviest, heaviest), of(0, -1, 0)} {
			if got := hue.Mix(w, c); got != of(0, 0, 0) {
				t.Errorf("%v, mixed with %v, is %v", w, c, got)
			}
		}
	}
}

// TestAdd: P9.1, by cases: channel by channel, held within the ints, also of what is no weight.
func TestAdd(t *testing.T) {
	for _, c := range []struct{ a, b, want api.RGB }{
		{of(0, 0, 0), of(0, 0, 0), of(0, 0, 0)}, {of(1, 2, 3), of(10, 20, 30), of(11, 22, 33)}, {of(1, 2, 3), of(0, 0, 0), of(1, 2, 3)},
		{of(heaviest, heaviest, heaviest), of(1, heaviest, 0), of(heaviest+1, 2*heaviest, heaviest)}, {of(-1, 5, -7), of(-2, -5, 9), of(-3, 0, 2)},
		{of(most, most, most), of(1, 0, -1), of(most, most, most-1)}, {of(least, least, least), of(-1, 0, 1), of(least, least, least+1)},
		{of(most, least, most), of(least, most, most), of(-1, -1, most)}, {of(most-1, least+1, 0), of(2, -2, least), of(most, least, least)},
		{of(most-1, least+1, least), of(1, -1, least), of(most, least, least)}, {of(1, 1<<62, -1<<62), of(most, 1<<62, -1<<62), of(most, most, least)},
	} {
		if got := hue.Add(c.a, c.b); got != c.want {
			t.Errorf("%v and %v are %v, not %v", c.a, c.b, got, c.want)
		}
	}
}

// held is n, or the end of the ints that it has passed.
func held(n *big.Int) int {
	if n.IsInt64() {
		return int(n.Int64())
	}
	if n.Sign() < 0 {
		return least
	}
	return most
}

// added is the sum of both by exact numbers, held within the ints.
func added(a, b api.RGB) api.RGB {
	all := list(a)
	for channel, n := range list(b) {
		all[channel] = held(new(big.Int).Add(big.NewInt(int64(all[channel])), big.NewInt(int64(n))))
	}
	return of(all[0], all[1], all[2])
}

// anything holds what may be added: weights, and what is none.
func anything() []api.RGB {
	all := append(weights(), strays(heaviest)...)
	return append(all, of(least, most, 0), of(most, -7, least), of(-1<<62, 1<<62, 1<<62+1), of(1<<62, -1<<62-1, 5))
}

// TestAddExact: P9.1, against exact numbers.
func TestAddExact(t *testing.T) {
	all := anything()
	for _, a := range all {
		for _, b := range all {
			if got, want := hue.Add(a, b), added(a, b); got != want {
				t.Fatalf("%v and %v are %v, not %v", a, b, got, want)
			}
		}
	}
}

// TestFold: P9.1, by cases: of an empty list zero, and each sum is held before the next one is added.
func TestFold(t *testing.T) {
	for _, c := range []struct {
		l    []api.RGB
		want api.RGB
	}{
		{nil, of(0, 0, 0)}, {[]api.RGB{}, of(0, 0, 0)}, {make([]api.RGB, 0, 5), of(0, 0, 0)}, {[]api.RGB{{}, {}}, of(0, 0, 0)},
		{[]api.RGB{of(1, 2, 3)}, of(1, 2, 3)}, {[]api.RGB{of(least, most, -1)}, of(least, most, -1)}, {[]api.RGB{of(1, 0, 0), of(2, 0, 3)}, of(3, 0, 3)},
		{[]api.RGB{of(1, 10, 100), of(2, 20, 200), of(3, 30, 300), of(4, 40, 400)}, of(10, 100, 1000)},
		{[]api.RGB{of(most, 0, 5), of(1, 0, 5), of(-1, 0, 5)}, of(most-1, 0, 15)}, {[]api.RGB{of(-1, 5, 0), of(1, 5, 0), of(most, 5, 0)}, of(most, 15, 0)},
		{[]api.RGB{of(least, 0, least), of(-1, 0, 1), of(1, 0, -1)}, of(least+1, 0, least)},
		{[]api.RGB{of(0, most, 0), of(0, most, 0), of(0, least, 0), of(0, least, 0)}, of(0, least, 0)},
		{[]api.RGB{of(0, 0, most), of(0, 0, least), of(0, 0, most), of(0, 0, least)}, of(0, 0, -2)},
	} {
		if got := hue.Fold(c.l); got != c.want {
			t.Errorf("the sum of %v is %v, not %v", c.l, got, c.want)
		}
	}
}

// TestFoldExact: P9.1, the sums of longer and longer lists, against exact numbers that are held one after the other.
func TestFoldExact(t *testing.T) {
	all := anything()
	rand.New(rand.NewPCG(9, 9)).Shuffle(len(all), func(i, j int) { all[i], all[j] = all[j], all[i] })
	want := of(0, 0, 0)
	for place, w := range all {
		want = added(want, w)
		if got := hue.Fold(all[:place+1]); got != want {
			t.Fatalf("the sum of the first %d is %v, not %v", place+1, got, want)
		}
	}
}

// TestFoldApart: P9.1, what is given is left as it is, and what lies beyond the list is not added.
func TestFoldApart(t *testing.T) {
	whole := []api.RGB{of(1, 2, 3), of(4, 5, 6), of(7, 8, 9)}
	before := slices.Clone(whole)
	if got := hue.Fold(whole[:2]); got != of(5, 7, 9) || !slices.Equal(whole, before) {
		t.Errorf("the sum is %v, and leaves %v", got, whole)
	}
}

// TestPart: P9.2, by cases: rounded down, of fractions of 0 and above 1, with parts that are held at 2^40.
func TestPart(t *testing.T) {
	for _, c := range []struct {
		w    api.RGB
		f    api.Frac
		want api.RGB
	}{
		{of(10, 20, 30), api.Frac{N: 1, D: 3}, of(3, 6, 10)}, {of(10, 20, 30), api.Frac{N: 5, D: 2}, of(25, 50, 75)}, {of(10, 20, 30), api.Frac{N: 7, D: 7}, of(10, 20, 30)},
		{of(10, 20, 30), api.Frac{N: 0, D: 1}, of(0, 0, 0)}, {of(0, 0, 0), api.Frac{N: most, D: 1}, of(0, 0, 0)}, {of(1, 2, 3), api.Frac{N: 99, D: 100}, of(0, 1, 2)},
		{of(heaviest, heaviest-1, 1), api.Frac{N: 1, D: 1}, of(heaviest, heaviest-1, 1)}, {of(heaviest, heaviest/2, 1), api.Frac{N: 2, D: 1}, of(heaviest, heaviest, 2)},
		{of(heaviest, heaviest-1, heaviest/2), api.Frac{N: heaviest + 1, D: heaviest}, of(heaviest, heaviest-1, heaviest/2)}, {of(3, 2, 1), api.Frac{N: heaviest, D: 2}, of(heaviest, heaviest, heaviest/2)},
		{of(1, 0, heaviest), api.Frac{N: most, D: 1}, of(heaviest, 0, heaviest)}, {of(1, 2, heaviest), api.Frac{N: most, D: most}, of(1, 2, heaviest)},
		{of(1, 2, heaviest), api.Frac{N: 1, D: most}, of(0, 0, 0)}, {of(1, 2, heaviest), api.Frac{N: heaviest, D: most}, of(0, 0, 1<<17)},
		{of(1, 2, 3), api.Frac{N: heaviest + 1, D: 1}, of(heaviest, heaviest, heaviest)}, {of(1, 2, 3), api.Frac{N: heaviest - 1, D: 1}, of(heaviest-1, heaviest, heaviest)},
		{of(12, 0, 0), api.Frac{N: 1, D: 4}, of(3, 0, 0)}, {of(0, 12, 0), api.Frac{N: 1, D: 4}, of(0, 3, 0)}, {of(0, 0, 12), api.Frac{N: 1, D: 4}, of(0, 0, 3)},
	} {
		if got := hue.Part(c.w, c.f); got != c.want {
			t.Errorf("the part %v of %v is %v, not %v", c.f, c.w, got, c.want)
		}
	}
}

// TestPartExact: P9.2, each channel against exact numbers.
func TestPartExact(t *testing.T) {
	for _, w := range weights() {
		for _, f := range fractions() {
			var all [3]int
			for channel, n := range list(w) {
				product := new(big.Int).Mul(big.NewInt(int64(n)), big.NewInt(int64(f.N)))
				all[channel] = min(held(product.Div(product, big.NewInt(int64(f.D)))), heaviest)
			}
			if got, want := hue.Part(w, f), of(all[0], all[1], all[2]); got != want {
				t.Fatalf("the part %v of %v is %v, not %v", f, w, got, want)
			}
		}
	}
}

// TestPartStrays: P9.2, of what is no weight, and by a fraction that is not valid or below 0, the part is zero, in all channels.
func TestPartStrays(t *testing.T) {
	for _, w := range strays(heaviest) {
		for _, f := range []api.Frac{{N: 0, D: 1}, {N: 1, D: 1}, {N: 1, D: 3}, {N: 7, D: 2}, {N: most, D: 1}, {N: 1, D: most}, {N: 1, D: 0}} {
			if got := hue.Part(w, f); got != of(0, 0, 0) {
				t.Errorf("the part %v of %v is %v", f, w, got)
			}
		}
	}
	for _, f := range []api.Frac{
		{}, {N: 1, D: 0}, {N: 1, D: -1}, {N: 1, D: -3}, {N: -1, D: -1}, {N: -5, D: -2}, {N: most, D: least}, {N: least, D: least}, {N: 5, D: least},
		{N: -1, D: 1}, {N: -1, D: 3}, {N: -1, D: most}, {N: -7, D: 2}, {N: least, D: 1}, {N: least, D: most}, {N: -heaviest, D: heaviest},
	} {
		for _, w := range weights() {
			if got := hue.Part(w, f); got != of(0, 0, 0) {
				t.Errorf("the part %v of %v is %v", f, w, got)
			}
		}
	}
}

// TestMost: P9.2, the greatest channel, wherever it stands, also of what is no weight.
func TestMost(t *testing.T) {
	for _, c := range []struct {
		w    api.RGB
		want int
	}{
		{of(0, 0, 0), 0}, {of(3, 2, 1), 3}, {of(1, 3, 2), 3}, {of(2, 1, 3), 3}, {of(3, 3, 1), 3}, {of(1, 3, 3), 3}, {of(3, 1, 3), 3}, {of(5, 5, 5), 5},
		{of(heaviest, heaviest-1, 0), heaviest}, {of(0, heaviest+1, heaviest), heaviest + 1}, {of(-3, -2, -1), -1}, {of(-1, -2, -3), -1}, {of(-2, -1, -3), -1}, {of(-1, 0, -1), 0},
		{of(least, least, least), least}, {of(least, least, least+1), least + 1}, {of(least, most, 0), most}, {of(most, least, most-1), most}, {of(0, most-1, most), most},
	} {
		if got := hue.Most(c.w); got != c.want {
			t.Errorf("the greatest channel of %v is %d, not %d", c.w, got, c.want)
		}
	}
	for _, w := range anything() {
		channels := list(w)
		if got, want := hue.Most(w), slices.Max(channels[:]); got != want {
			t.Errorf("the greatest channel of %v is %d, not %d", w, got, want)
		}
	}
}

// TestGrey: P9.2, by cases: green counts twice, and what is left is dropped.
func TestGrey(t *testing.T) {
	for _, c := range []struct {
		w    api.RGB
		want int
	}{
		{of(0, 0, 0), 0}, {of(8, 0, 0), 2}, {of(0, 8, 0), 4}, {of(0, 0, 8), 2}, {of(1, 0, 0), 0}, {of(0, 1, 0), 0}, {of(0, 0, 1), 0}, {of(3, 0, 0), 0}, {of(1, 1, 1), 1},
		{of(1, 1, 0), 0}, {of(2, 1, 0), 1}, {of(1, 2, 3), 2}, {of(3, 2, 4), 2}, {of(4, 4, 3), 3}, {of(100, 200, 50), 137}, {of(0, 3, 1), 1},
		{of(heaviest, heaviest, heaviest), heaviest}, {of(heaviest, heaviest, heaviest-1), heaviest - 1}, {of(0, heaviest, 0), heaviest / 2}, {of(heaviest, 0, 0), heaviest / 4}, {of(0, 0, heaviest), heaviest / 4},
	} {
		if got := hue.Grey(c.w); got != c.want {
			t.Errorf("the grey of %v is %d, not %d", c.w, got, c.want)
		}
	}
	for _, w := range weights() {
		all := new(big.Int)
		for _, n := range []int{w.R, w.G, w.G, w.B} {
			all.Add(all, big.NewInt(int64(n)))
		}
		if got, want := hue.Grey(w), int(all.Rsh(all, 2).Int64()); got != want {
			t.Errorf("the grey of %v is %d, not %d", w, got, want)
		}
	}
}

// TestGreyStrays: P9.2, of what is no weight, it is 0.
func TestGreyStrays(t *testing.T) {
	for _, w := range strays(heaviest) {
		if got := hue.Grey(w); got != 0 {
			t.Errorf("the grey of %v is %d", w, got)
		}
	}
}

// TestBlack: P9.2, only where all channels are 0, also of what is no weight.
func TestBlack(t *testing.T) {
	if !hue.Black(of(0, 0, 0)) {
		t.Error("no light is not black")
	}
	for _, n := range []int{1, -1, 2, full, heaviest, 1 << 32, 1 << 62, most, least} {
		for _, w := range []api.RGB{of(n, 0, 0), of(0, n, 0), of(0, 0, n), of(n, n, n), of(n, -n, 0), of(n, 0, -n), of(0, -n, n)} {
			if hue.Black(w) {
				t.Errorf("%v is black", w)
			}
		}
	}
}

// fits tells whether no channel of a is greater than that of b.
func fits(a, b api.RGB) bool {
	return a.R <= b.R && a.G <= b.G && a.B <= b.B
}

// TestMixLess: P9.3, mixing makes no channel greater, and leaves a weight.
func TestMixLess(t *testing.T) {
	for _, w := range weights() {
		for _, c := range colors() {
			if got := hue.Mix(w, c); !fits(got, w) || !hue.Weight(got) {
				t.Fatalf("%v, mixed with %v, is %v", w, c, got)
			}
		}
	}
}

// TestMixWhole: P9.3, a weight stays as it is with white, and becomes black with no color.
func TestMixWhole(t *testing.T) {
	for _, w := range weights() {
		if got := hue.Mix(w, of(full, full, full)); got != w {
			t.Errorf("%v, mixed with white, is %v", w, got)
		}
		if got := hue.Mix(w, of(0, 0, 0)); !hue.Black(got) {
			t.Errorf("%v, mixed with no color, is %v", w, got)
		}
	}
}

// TestMixTwice: P9.3, mixing with two colors one after the other leaves no more than mixing with either of them.
func TestMixTwice(t *testing.T) {
	all := append(grid(0, 1, full-1, full), scattered(20, full)...)
	for _, w := range weights() {
		for _, c := range all {
			once := hue.Mix(w, c)
			for _, d := range all {
				if twice := hue.Mix(once, d); !fits(twice, once) || !fits(twice, hue.Mix(w, d)) {
					t.Fatalf("%v, mixed with %v and %v, is %v", w, c, d, twice)
				}
			}
		}
	}
}
