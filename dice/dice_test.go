package dice_test

import (
	"math"
	"math/big"
	"testing"

	"skylight/dice"
)

const (
	least    = math.MinInt
	most     = math.MaxInt
	greatest = math.MaxUint64 // the greatest seed
	widest   = 1 << 31        // as far as Below goes
)

// words holds numbers of 64 bits about 0, about every power of 2 and about both ends.
func words() []uint64 {
	list := []uint64{0x9e3779b97f4a7c15, 0x123456789abcdef0, 0xfedcba9876543210, 0xaaaaaaaaaaaaaaaa, 0x5555555555555555}
	for bit := range 64 {
		power := uint64(1) << bit
		list = append(list, power-1, power, power+1, -power, ^power)
	}
	return append(list, greatest-1, greatest)
}

// ints holds ints about 0 and about both ends, and of the sizes that particles and places have.
func ints() []int {
	return []int{0, 1, 2, 3, 15, 16, 4096, 1 << 20, widest - 1, widest, 1 << 32, 1 << 62, most - 1, most, -1, -2, -3, -16, -widest, -1 << 62, least + 1, least}
}

// seeds holds seeds from 0 to the greatest one.
func seeds() []uint64 {
	return []uint64{0, 1, 2, 42, 1 << 31, 1 << 32, 1 << 63, 1<<63 - 1, 0x9e3779b97f4a7c15, greatest - 1, greatest}
}

// whole is x as an exact number.
func whole(x uint64) *big.Int { return new(big.Int).SetUint64(x) }

// low is a number modulo 2^64; Euclid's rest is not below 0.
func low(x *big.Int) *big.Int {
	return new(big.Int).Mod(x, new(big.Int).Lsh(big.NewInt(1), 64))
}

// folded is (x XOR (x >> shift)) times factor, modulo 2^64.
func folded(x *big.Int, shift uint, factor uint64) *big.Int {
	part := new(big.Int).Rsh(x, shift)
	part.Xor(part, x)
	return low(part.Mul(part, whole(factor)))
}

// mixed is x, mixed with exact numbers.
func mixed(x *big.Int) *big.Int {
	y := folded(low(x), 30, 0xbf58476d1ce4e5b9)
	z := folded(y, 27, 0x94d049bb133111eb)
	return folded(z, 31, 1)
}

// drawn is the draw, by exact numbers.
func drawn(seed uint64, particle, place int) uint64 {
	x := mixed(whole(seed))
	x = mixed(x.Add(x, big.NewInt(int64(particle))))
	x = mixed(x.Add(x, big.NewInt(int64(place))))
	return x.Uint64()
}

// broughtBelow is x times n, divided by 2^64, rounded down, by exact numbers.
func broughtBelow(x uint64, n int) int {
	product := new(big.Int).Mul(whole(x), big.NewInt(int64(n)))
	return int(product.Rsh(product, 64).Int64())
}

// inverse is what undoes multiplying by an odd factor.
func inverse(factor uint64) uint64 {
	turn := new(big.Int).Lsh(big.NewInt(1), 64)
	return new(big.Int).ModInverse(whole(factor), turn).Uint64()
}

// unmixed is the one number that is mixed to x.
func unmixed(x uint64) uint64 {
	x = (x ^ x>>31 ^ x>>62) * inverse(0x94d049bb133111eb)
	x = (x ^ x>>27 ^ x>>54) * inverse(0xbf58476d1ce4e5b9)
	return x ^ x>>30 ^ x>>60
}

// TestMix: P4.1, by cases, with the chapter's example; 0x9e37.. and its multiples are mixed to the numbers that splitmix64 is known for.
func TestMix(t *testing.T) {
	golden := uint64(0x9e3779b97f4a7c15)
	for _, c := range []struct{ x, want uint64 }{
		{0, 0}, {1, 0x5692161d100b05e5}, {2, 0xdbd238973a2b148a}, {3, 0x1e535eede31428f0},
		{1 << 30, 0x2ba0091cc9e3ceff}, {1 << 31, 0xec105bf588587c9f}, {1 << 32, 0xd820b7e910b0f93f}, {1 << 63, 0x25c26ea579cea98a},
		{greatest, 0xb4d055fcf2cbbd7b}, {greatest - 1, 0xda26e52fa3730902},
		{golden, 0xe220a8397b1dcdaf}, {2 * golden, 0x6e789e6aa1b965f4}, {golden * 3, 0x06c45d188009454f}, {golden * 4, 0xf88bb8a8724c81ec},
		{1234567 + golden, 6457827717110365317}, {1234567 + 2*golden, 3203168211198807973},
	} {
		if got := dice.Mix(c.x); got != c.want {
			t.Errorf("Mix(%#x) is %#x, not %#x", c.x, got, c.want)
		}
	}
}

// TestMixExact: P4.1, against exact numbers.
func TestMixExact(t *testing.T) {
	for _, x := range words() {
		if got, want := dice.Mix(x), mixed(whole(x)).Uint64(); got != want {
			t.Fatalf("Mix(%#x) is %#x, not %#x", x, got, want)
		}
	}
}

// TestDraw: P4.1, by cases: the greatest seed, and particles and places below 0.
func TestDraw(t *testing.T) {
	for _, c := range []struct {
		seed            uint64
		particle, place int
		want            uint64
	}{
		{0, 0, 0, 0}, {0, 0, 1, 0x5692161d100b05e5}, {0, 1, 0, 0x7ab40e090f363a7d}, {1, 0, 0, 0x71cac37448049ce4},
		{1, 2, 0, 0xd84075a38c2a7917}, {1, 2, 3, 0x6ea43fa50cdbd352}, {42, 7, 5, 0x73e482a930a39e91},
		{greatest, 0, 0, 0xdd2e126981c8585f}, {greatest, 1 << 20, 100, 0x7acb43f20d17c322}, {greatest, most, most, 0xa778a34bfde0a45c}, {greatest, least, least, 0x8e54c6be145bf7b4}, {1 << 63, most, 0, 0xf0ce6e3b000a0093},
		{0, -1, 0, 0x4bffd802ebfb15e4}, {0, 0, -1, 0xb4d055fcf2cbbd7b}, {5, -3, -4, 0x46030a8e7132a39e}, {5, least, 1, 0xd1b64cb4e2684c48}, {5, 1, least, 0xe9f3c1eb0575edaa},
	} {
		if got := dice.Draw(c.seed, c.particle, c.place); got != c.want {
			t.Errorf("Draw(%d, %d, %d) is %#x, not %#x", c.seed, c.particle, c.place, got, c.want)
		}
	}
}

// TestDrawExact: P4.1, against exact numbers.
func TestDrawExact(t *testing.T) {
	for _, seed := range seeds() {
		for _, particle := range ints() {
			for _, place := range ints() {
				if got, want := dice.Draw(seed, particle, place), drawn(seed, particle, place); got != want {
					t.Fatalf("Draw(%d, %d, %d) is %#x, not %#x", seed, particle, place, got, want)
				}
			}
		}
	}
}

// TestBelow: P4.1, by cases, with the chapter's example: an n of 1 and of 2^31, and those of 0, below 0 and beyond 2^31.
func TestBelow(t *testing.T) {
	for _, c := range []struct {
		x    uint64
		n    int
		want int
	}{
		{1 << 63, 10, 5}, {1<<63 - 1, 10, 4}, {0, 10, 0}, {greatest, 10, 9}, {greatest, 6, 5}, {1 << 62, 6, 1}, {3 << 62, 6, 4},
		{0, 1, 0}, {1 << 63, 1, 0}, {greatest, 1, 0}, {1<<63 - 1, 2, 0}, {1 << 63, 2, 1}, {greatest, 2, 1},
		{0, widest, 0}, {1<<33 - 1, widest, 0}, {1 << 33, widest, 1}, {1 << 63, widest, 1 << 30}, {greatest, widest, widest - 1}, {greatest, widest - 1, widest - 2}, {1 << 63, widest - 1, 1<<30 - 1},
		{0x5555555555555555, 3, 0}, {0x5555555555555556, 3, 1}, {0xaaaaaaaaaaaaaaaa, 3, 1}, {0xaaaaaaaaaaaaaaab, 3, 2}, {0x123456789abcdef0, 1 << 16, 0x1234}, {0x123456789abcdef0, 1 << 20, 0x12345},
		{1 << 63, 0, 0}, {greatest, 0, 0}, {1 << 63, -1, 0}, {greatest, -1, 0}, {greatest, -10, 0}, {greatest, -widest, 0}, {greatest, least, 0}, {1 << 63, least + 1, 0},
		{greatest, widest + 1, 0}, {1 << 63, widest + 1, 0}, {1 << 63, 1 << 32, 0}, {greatest, 1 << 62, 0}, {greatest, most, 0}, {greatest, 1<<32 + 10, 0},
	} {
		if got := dice.Below(c.x, c.n); got != c.want {
			t.Errorf("Below(%#x, %d) is %d, not %d", c.x, c.n, got, c.want)
		}
	}
}

// TestBelowExact: P4.1, against exact numbers: an n for every size, and the words beside which the result steps.
func TestBelowExact(t *testing.T) {
	for n := 1; n <= widest; n += 1 + n/7 {
		checkBelow(t, n)
	}
	for _, n := range []int{widest - 1, widest, 1 << 16, 1<<16 - 1, 1<<16 + 1, 1000003} {
		checkBelow(t, n)
	}
}

// checkBelow asks the results of one n from 1 to 2^31.
func checkBelow(t *testing.T, n int) {
	t.Helper()
	list := words()
	for _, k := range []int{0, 1, 2, n / 3, n / 2, n - 2, n - 1} {
		// x is the least word of which k comes, if there is one.
		x := new(big.Int).Lsh(big.NewInt(int64(k)), 64)
		x.Add(x, big.NewInt(int64(n-1)))
		x.Quo(x, big.NewInt(int64(n)))
		if k >= 0 && k < n {
			list = append(list, x.Uint64()-1, x.Uint64(), x.Uint64()+1)
		}
	}
	for _, x := range list {
		got, want := dice.Below(x, n), broughtBelow(x, n)
		if got != want || got < 0 || got >= n {
			t.Fatalf("Below(%#x, %d) is %d, not %d", x, n, got, want)
		}
	}
}

// TestNext: P4.2, the number of draws is the place, and every draw counts.
func TestNext(t *testing.T) {
	for _, seed := range seeds() {
		for _, particle := range ints() {
			deck := dice.New(seed, particle)
			if deck == nil || deck.Count() != 0 {
				t.Fatalf("New(%d, %d) is no deck from which nothing was drawn", seed, particle)
			}
			for place := range 20 {
				if got, want := deck.Next(), drawn(seed, particle, place); got != want {
					t.Fatalf("draw %d of New(%d, %d) is %#x, not %#x", place, seed, particle, got, want)
				}
				// It is asked twice, since asking draws nothing.
				if deck.Count() != place+1 || deck.Count() != place+1 {
					t.Fatalf("after draw %d the count is %d", place, deck.Count())
				}
			}
		}
	}
}

// TestTurnPickByCases: P4.2, by cases.
func TestTurnPickByCases(t *testing.T) {
	for _, c := range []struct {
		seed         uint64
		particle     int
		turns, picks [8]int
	}{
		{1, 2, [8]int{55360, 53212, 60304, 28324, 62306, 64498, 17384, 418}, [8]int{8, 8, 9, 4, 9, 9, 2, 0}},
		{greatest, -1, [8]int{19726, 30000, 32379, 3088, 336, 29842, 34194, 5375}, [8]int{3, 4, 4, 0, 0, 4, 5, 0}},
		{0, 0, [8]int{0, 22162, 56274, 7763, 47012, 46783, 53623, 4782}, [8]int{0, 3, 8, 1, 7, 7, 8, 0}},
	} {
		turning, picking := dice.New(c.seed, c.particle), dice.New(c.seed, c.particle)
		for i := range c.turns {
			if got := turning.Turn(); got != c.turns[i] {
				t.Errorf("turn %d of New(%d, %d) is %d, not %d", i, c.seed, c.particle, got, c.turns[i])
			}
			if got := picking.Pick(10); got != c.picks[i] {
				t.Errorf("pick %d of New(%d, %d) is %d, not %d", i, c.seed, c.particle, got, c.picks[i])
			}
		}
	}
}

// TestDrawsInTurn: P4.2, Next, Turn and Pick draw from one row of numbers, each one of them, whatever n is.
func TestDrawsInTurn(t *testing.T) {
	bounds := []int{1, 2, 3, 10, 65536, widest - 1, widest, 0, -1, -10, widest + 1, most, least}
	for _, seed := range seeds() {
		for _, particle := range ints() {
			deck, place := dice.New(seed, particle), 0
			count := func(name string, n, got, want int) {
				t.Helper()
				if place++; got != want || deck.Count() != place {
					t.Fatalf("%s of %d at place %d of New(%d, %d) is %d, not %d; the count is %d", name, n, place-1, seed, particle, got, want, deck.Count())
				}
			}
			for _, n := range bounds {
				want := 0
				if n >= 1 && n <= widest {
					want = broughtBelow(drawn(seed, particle, place), n)
				}
				count("Pick", n, deck.Pick(n), want)
				want = broughtBelow(drawn(seed, particle, place), 65536)
				count("Turn", 65536, deck.Turn(), want)
				want = int(drawn(seed, particle, place))
				count("Next", 0, int(deck.Next()), want)
			}
		}
	}
}

// TestDecksApart: P4.2, a deck is not moved by draws from another one, not even one of the same numbers.
func TestDecksApart(t *testing.T) {
	one, same, other := dice.New(7, 3), dice.New(7, 3), dice.New(7, 4)
	for place := range 30 {
		for range place % 3 {
			other.Turn()
		}
		if got, want := one.Next(), drawn(7, 3, place); got != want {
			t.Fatalf("draw %d is %#x, not %#x", place, got, want)
		}
	}
	if same.Count() != 0 || same.Next() != drawn(7, 3, 0) {
		t.Error("a deck was moved by draws from another one")
	}
	if other.Count() != 30 || other.Next() != drawn(7, 4, 30) {
		t.Errorf("the other deck's count is %d", other.Count())
	}
}

// TestNoDeck: P4.2, a nil Deck and one that New did not return answer 0, and nothing is drawn from them.
func TestNoDeck(t *testing.T) {
	var none dice.Deck
	for _, deck := range []*dice.Deck{nil, {}, new(dice.Deck), &none} {
		for range 3 {
			if got := deck.Next(); got != 0 {
				t.Errorf("Next is %#x", got)
			}
			if got := deck.Turn(); got != 0 {
				t.Errorf("Turn is %d", got)
			}
			for _, n := range []int{10, 1, widest, 0, -1, widest + 1, most, least} {
				if got := deck.Pick(n); got != 0 {
					t.Errorf("Pick(%d) is %d", n, got)
				}
			}
			if got := deck.Count(); got != 0 {
				t.Errorf("Count is %d", got)
			}
		}
	}
}

// TestMethodsAsValues: the chapter's section 'Ways', draws that are passed on as values move their deck, and go with no deck.
func TestMethodsAsValues(t *testing.T) {
	deck := dice.New(greatest, 5)
	next, turn, pick := deck.Next, deck.Turn, deck.Pick
	if got := next(); got != drawn(greatest, 5, 0) {
		t.Errorf("Next is %#x", got)
	}
	if got := turn(); got != broughtBelow(drawn(greatest, 5, 1), 65536) {
		t.Errorf("Turn is %d", got)
	}
	if got := pick(6); got != broughtBelow(drawn(greatest, 5, 2), 6) || deck.Count() != 3 {
		t.Errorf("Pick is %d, and the count %d", got, deck.Count())
	}
	var none *dice.Deck
	next, turn, pick = none.Next, none.Turn, none.Pick
	if next() != 0 || turn() != 0 || pick(6) != 0 {
		t.Error("draws of no deck are not 0")
	}
}

// TestMixApart: P4.3, of each mixed number the number itself is found again, so no other one is mixed to it.
func TestMixApart(t *testing.T) {
	for _, x := range words() {
		if got := unmixed(dice.Mix(x)); got != x {
			t.Fatalf("%#x is mixed to what %#x is mixed to", x, got)
		}
	}
	seen := map[uint64]int{}
	for x := range 100000 {
		mixed := dice.Mix(uint64(x))
		if first, there := seen[mixed]; there {
			t.Fatalf("%d and %d are mixed to %#x", first, x, mixed)
		}
		seen[mixed] = x
	}
}

// TestDrawsApart: P4.3, of a draw, with its seed, the place is found again by the particle, and the particle by the place, so no others draw the same.
func TestDrawsApart(t *testing.T) {
	for _, seed := range seeds() {
		for _, particle := range ints() {
			for _, place := range ints() {
				sum := unmixed(dice.Draw(seed, particle, place))
				if got := int(sum - dice.Mix(dice.Mix(seed)+uint64(particle))); got != place {
					t.Fatalf("places %d and %d of seed %d and particle %d draw the same", place, got, seed, particle)
				}
				if got := int(unmixed(sum-uint64(place)) - dice.Mix(seed)); got != particle {
					t.Fatalf("particles %d and %d of seed %d draw the same at place %d", particle, got, seed, place)
				}
			}
		}
	}
}

// TestDeckDrawsApart: P4.3, a deck draws no number twice, and decks of other particles draw others at the same place.
func TestDeckDrawsApart(t *testing.T) {
	deck, seen := dice.New(greatest, -1), map[uint64]bool{}
	for range 50000 {
		seen[deck.Next()] = true
	}
	if len(seen) != 50000 || deck.Count() != 50000 {
		t.Errorf("%d draws of a deck are only %d numbers", deck.Count(), len(seen))
	}
	firsts := map[uint64]bool{}
	for particle := -25000; particle < 25000; particle++ {
		firsts[dice.New(greatest, particle).Next()] = true
	}
	if len(firsts) != 50000 {
		t.Errorf("the first draws of 50000 particles are only %d numbers", len(firsts))
	}
}
