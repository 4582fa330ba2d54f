package scene_test

import (
	"math/big"
	"math/rand/v2"
	"slices"
	"testing"

	"skylight/api"
	"skylight/scene"
)

// TestMat: P20.2, by cases: materials that the scene has, that are valid and that it does not have, and that it has and are not valid.
func TestMat(t *testing.T) {
	s := sample()
	for item, m := range s.Mats {
		if !scene.Mat(s, m) {
			t.Errorf("the scene does not have %v", m)
		}
		one := api.Scene{Mats: s.Mats[:item]}
		if scene.Mat(one, m) {
			t.Errorf("%v has %v", one.Mats, m)
		}
		one.Mats = s.Mats[item : item+1]
		if !scene.Mat(one, m) {
			t.Errorf("%v does not have %v", one.Mats, m)
		}
	}
	for _, m := range []api.Mat{
		{Kind: 2, Color: rgb(1, 2, 3)}, {Kind: 1, Color: rgb(2, 2, 3)}, {Kind: 1, Color: rgb(1, 1, 3)}, {Kind: 1, Color: rgb(1, 2, 4)}, {Kind: 1, Color: rgb(3, 2, 1)}, {Kind: 1},
		{Kind: 3, Color: rgb(7, full, 8), Extra: 24577}, {Kind: 4, Color: rgb(0, 10, 20), Extra: 9}, {Kind: 4, Color: rgb(0, 10, 20), Extra: 64}, {Kind: 3, Color: rgb(0, 10, 20), Extra: 24576},
		{}, {Kind: 1, Color: rgb(1, 2, 3), Extra: 1}, {Kind: 5, Color: rgb(1, 2, 3)},
	} {
		if scene.Mat(s, m) || scene.Mat(api.Scene{}, m) {
			t.Errorf("the scene has %v", m)
		}
	}
}

// TestMatWrong: P20.2, a material that is not valid is not one that the scene has, also if it has an equal one.
func TestMatWrong(t *testing.T) {
	for _, m := range []api.Mat{
		{}, {Kind: 0, Color: rgb(1, 2, 3)}, {Kind: 5, Color: rgb(1, 2, 3)}, {Kind: -1}, {Kind: 1, Extra: 1}, {Kind: 2, Extra: -1}, {Kind: 3}, {Kind: 3, Extra: 16383}, {Kind: 3, Extra: 65537},
		{Kind: 4}, {Kind: 4, Extra: 65}, {Kind: 1, Color: rgb(full+1, 0, 0)}, {Kind: 2, Color: rgb(0, -1, 0)}, {Kind: 3, Color: rgb(0, 0, full+1), Extra: 20000}, {Kind: 4, Color: rgb(-1, 0, 0), Extra: 5},
	} {
		for item := range 4 {
			s := changed(func(s *api.Scene) { s.Mats[item] = m })
			if scene.Mat(s, m) {
				t.Errorf("%v has %v", s.Mats, m)
			}
		}
	}
	for _, m := range []api.Mat{{Kind: 1}, {Kind: 2, Color: rgb(full, full, full)}, {Kind: 3, Extra: 16384}, {Kind: 3, Extra: 65536}, {Kind: 4, Extra: 1}, {Kind: 4, Extra: 64}} {
		for item := range 4 {
			s := changed(func(s *api.Scene) { s.Mats[item] = m })
			if !scene.Mat(s, m) {
				t.Errorf("%v does not have %v", s.Mats, m)
			}
		}
	}
}

// TestMatAnywhere: P20.2, what else is wrong with a scene does not matter for whether it has a material.
func TestMatAnywhere(t *testing.T) {
	m := sample().Mats[2]
	for _, f := range falls() {
		s := together(f)
		// The fault may be that of this very material.
		if want := slices.Contains(s.Mats, m); scene.Mat(s, m) != want {
			t.Errorf("%v is had: %t, want %t, with the fault %v", m, !want, want, f.want)
		}
	}
	many := slices.Repeat([]api.Mat{{}}, 2000)
	many[1999] = m
	if !scene.Mat(api.Scene{Mats: many}, m) || scene.Mat(api.Scene{Mats: many[:1999]}, m) {
		t.Errorf("%v is not had as the last one only", m)
	}
}

// TestBright: P20.2, the light of valid scenes, each light's grey rounded down by itself.
func TestBright(t *testing.T) {
	for _, c := range []struct {
		want   int
		powers []api.RGB
	}{
		{252, []api.RGB{rgb(100, 0, 0), rgb(1, 2, 3), rgb(0, 0, 900)}},
		{0, []api.RGB{rgb(1, 0, 0)}}, {0, []api.RGB{rgb(1, 1, 0)}}, {1, []api.RGB{rgb(1, 1, 1)}}, {0, []api.RGB{rgb(0, 1, 0)}}, {1, []api.RGB{rgb(0, 2, 0)}}, {0, []api.RGB{rgb(3, 0, 0), rgb(3, 0, 0), rgb(0, 0, 3)}},
		{bright, []api.RGB{rgb(bright, bright, bright)}}, {64 * bright, slices.Repeat([]api.RGB{rgb(bright, bright, bright)}, 64)}, {16 * bright, slices.Repeat([]api.RGB{rgb(0, 0, bright)}, 64)}, {32 * bright, slices.Repeat([]api.RGB{rgb(0, bright, 0)}, 64)},
	} {
		s := sample()
		s.Lights = slices.Repeat(s.Lights, 22)[:len(c.powers)]
		for item, w := range c.powers {
			s.Lights[item].Power = w
		}
		if got := scene.Bright(s); got != c.want {
			t.Errorf("the light of %v is %d, want %d", c.powers, got, c.want)
		}
	}
}

// TestBrightWide: P20.2, the light of random lights, against exact numbers.
func TestBrightWide(t *testing.T) {
	random := rand.New(rand.NewPCG(20, 3))
	for round := range 2000 {
		s, want := sample(), new(big.Int)
		s.Lights = slices.Repeat(s.Lights, 22)[:1+random.IntN(64)]
		for item := range s.Lights {
			bound := []int{3, 100, bright}[round%3]
			w := rgb(random.IntN(bound+1), random.IntN(bound+1), 1+random.IntN(bound))
			s.Lights[item].Power = w
			sum := big.NewInt(int64(w.R))
			sum.Add(sum, big.NewInt(2*int64(w.G))).Add(sum, big.NewInt(int64(w.B)))
			want.Add(want, sum.Div(sum, big.NewInt(4)))
		}
		if got := scene.Bright(s); big.NewInt(int64(got)).Cmp(want) != 0 {
			t.Fatalf("the light of %v is %d, want %v", s.Lights, got, want)
		}
	}
}

// TestPixels: P20.2, how many pixels there are, of every size.
func TestPixels(t *testing.T) {
	for w := 1; w <= 256; w++ {
		for _, h := range []int{1, 2, 3, 30, 127, 255, 256} {
			s := changed(func(s *api.Scene) { s.Camera.W, s.Camera.H = w, h })
			if got := scene.Pixels(s); got != w*h {
				t.Errorf("%d by %d pixels are %d", w, h, got)
			}
			s.Camera.W, s.Camera.H = h, w
			if got := scene.Pixels(s); got != w*h {
				t.Errorf("%d by %d pixels are %d", h, w, got)
			}
		}
	}
}

// TestNothing: P20.2, scenes that are not valid, whichever the fault, have no light and no pixels.
func TestNothing(t *testing.T) {
	if s := sample(); scene.Bright(s) != 252 || scene.Pixels(s) != 600 {
		t.Errorf("the sample has the light %d and %d pixels", scene.Bright(s), scene.Pixels(s))
	}
	for _, f := range append(falls(), fall{func(s *api.Scene) { *s = api.Scene{} }, scene.Fault{}}) {
		if s := together(f); scene.Bright(s) != 0 || scene.Pixels(s) != 0 {
			t.Errorf("with the fault %v there is the light %d, and there are %d pixels", f.want, scene.Bright(s), scene.Pixels(s))
		}
	}
}

// TestRoom: P20.3, a light, or an object that it already has, is added to a valid scene, up to where there is no room.
func TestRoom(t *testing.T) {
	for item := range 3 {
		s := sample()
		for len(s.Lights) < 64 {
			s.Lights = append(s.Lights, s.Lights[item])
			valid(t, s)
		}
		s.Lights = append(s.Lights, s.Lights[item])
		check(t, s, fault(api.ErrMany, 3, 0))
	}
	for item := range 4 {
		s := sample()
		for len(s.Prims) < 1024 {
			s.Prims = append(s.Prims, s.Prims[item])
			valid(t, s)
		}
		s.Prims = append(s.Prims, s.Prims[item])
		check(t, s, fault(api.ErrMany, 2, 0))
	}
}

// TestRoomForOthers: P20.3, lights that the scene does not have yet are added to it, its things as lights among them.
func TestRoomForOthers(t *testing.T) {
	s := sample()
	for _, v := range around() {
		for _, l := range []api.Light{area(0), point(v), spot(v, of(1, 2, 3), 16383), spot(of(1, 2, 3), v, 0), area(2)} {
			s.Lights = append(s.Lights, l)
			valid(t, s)
		}
	}
}

// TestRoomWide: P20.3, a valid scene whose numbers are at some edges gets more lights and things that it has, in turns, and lacks something without its lights.
func TestRoomWide(t *testing.T) {
	random, count := rand.New(rand.NewPCG(20, 4)), 0
	for range 20000 {
		s := sample()
		all, around := numbers(&s), edges()
		for range random.IntN(4) {
			*all[random.IntN(len(all))] = around[random.IntN(len(around))]
		}
		if !scene.Right(s) {
			continue
		}
		count++
		for range 5 {
			s.Lights = append(s.Lights, s.Lights[random.IntN(len(s.Lights))])
			s.Prims = append(s.Prims, s.Prims[random.IntN(len(s.Prims))])
			valid(t, s)
		}
		s.Lights = nil
		check(t, s, fault(api.ErrLack, 3, 0))
	}
	if count < 1000 {
		t.Errorf("%d scenes were valid only", count)
	}
}

// TestLightless: P20.3, a valid scene without its lights lacks something, also if it has room for one.
func TestLightless(t *testing.T) {
	s := sample()
	for count := 3; count > 0; count-- {
		s.Lights = s.Lights[:count]
		valid(t, s)
	}
	s.Lights = s.Lights[:0]
	check(t, s, fault(api.ErrLack, 3, 0))
	s.Lights = nil
	check(t, s, fault(api.ErrLack, 3, 0))
	s.Prims = nil
	check(t, s, fault(api.ErrLack, 3, 0))
}
