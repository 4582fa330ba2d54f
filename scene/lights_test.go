package scene_test

import (
	"slices"
	"testing"

	"skylight/api"
	"skylight/scene"
)

// lit is the sample with other lights.
func lit(l ...api.Light) api.Scene {
	return changed(func(s *api.Scene) { s.Lights = l })
}

// point is a light at a place.
func point(at api.Vec) api.Light {
	return api.Light{Kind: 1, At: at, Power: rgb(1, 2, 3)}
}

// spot is a light from a place to another one.
func spot(at, to api.Vec, cos int) api.Light {
	return api.Light{Kind: 2, At: at, To: to, Cos: cos, Power: rgb(1, 2, 3)}
}

// area is the light of a thing.
func area(index int) api.Light {
	return api.Light{Kind: 3, Prim: index, Power: rgb(1, 2, 3)}
}

// shining fails unless l is at fault with that error wherever it stands, or valid if that is OK.
func shining(t *testing.T, code api.Errno, l api.Light) {
	t.Helper()
	for item := range 3 {
		all := sample().Lights
		all[item] = l
		want := fault(code, 3, item)
		if code == api.OK {
			want = scene.Fault{}
		}
		check(t, lit(all...), want)
	}
}

// TestLights: P20.1, the third part: how many lights there are, and which one is at fault.
func TestLights(t *testing.T) {
	list := func(n int) []api.Light { return slices.Repeat(sample().Lights, (n+2)/3)[:n] }
	check(t, lit(), fault(api.ErrLack, 3, 0))
	check(t, lit(list(65)[:0]...), fault(api.ErrLack, 3, 0))
	each(func(n int) { valid(t, lit(list(n)...)) }, 1, 2, 3, 63, 64)
	each(func(n int) { check(t, lit(list(n)...), fault(api.ErrMany, 3, 0)) }, 65, 66, 128, 1000)
	each(func(n int) {
		l := list(64)
		l[n] = area(1)
		check(t, lit(l...), fault(api.ErrName, 3, n))
		l[63].Kind = 0
		if n < 63 {
			check(t, lit(l...), fault(api.ErrName, 3, n))
		}
		if n > 0 {
			valid(t, lit(l[:n]...))
		}
		check(t, lit(append(l, l[0])...), fault(api.ErrMany, 3, 0))
	}, 0, 1, 2, 31, 62, 63)
}

// TestPower: P20.1, of each kind: what channels a power may have.
func TestPower(t *testing.T) {
	for _, l := range sample().Lights {
		with := func(code api.Errno, r, g, b int) {
			t.Helper()
			l.Power = rgb(r, g, b)
			shining(t, code, l)
		}
		with(api.ErrRange, 0, 0, 0)
		each(func(n int) {
			with(api.OK, n, 0, 0)
			with(api.OK, 0, n, 0)
			with(api.OK, 0, 0, n)
			with(api.OK, n, bright, 1)
			with(api.OK, 1, n, bright)
			with(api.OK, bright, 1, n)
		}, 1, 2, full, full+1, bright-1, bright)
		with(api.OK, bright, bright, bright)
		each(func(n int) {
			with(api.ErrRange, n, 0, 0)
			with(api.ErrRange, 0, n, 0)
			with(api.ErrRange, 0, 0, n)
			with(api.ErrRange, n, 5, bright)
			with(api.ErrRange, 5, n, bright)
			with(api.ErrRange, bright, 5, n)
			with(api.ErrRange, n, n, n)
		}, -1, -2, -bright, bright+1, 2*bright, 1<<32, 1<<32+1, 1<<40, 1<<40+1, most, least)
		with(api.ErrRange, 1, -1, 0)
		with(api.ErrRange, most, least, 1)
	}
}

// TestPoint: P20.1, where a point is, and what it has no use for.
func TestPoint(t *testing.T) {
	shining(t, api.OK, point(of(0, 0, 0)))
	for _, v := range around() {
		shining(t, api.OK, point(v))
		l := point(of(5, 6, 7))
		l.To = v
		shining(t, api.ErrRange, l)
	}
	for _, v := range beyond() {
		shining(t, api.ErrRange, point(v))
	}
	for _, v := range []api.Vec{of(1, 0, 0), of(0, -1, 0), of(0, 0, 1), of(5, 6, 7), of(most, least, 0)} {
		l := point(of(5, 6, 7))
		l.To = v
		shining(t, api.ErrRange, l)
	}
	each(func(n int) {
		l := point(of(5, 6, 7))
		l.Cos = n
		shining(t, api.ErrRange, l)
		l.Cos, l.Prim = 0, n
		shining(t, api.ErrRange, l)
		l.Cos = -n
		shining(t, api.ErrRange, l)
	}, 1, 2, 3, -1, 9000, 16383, 1<<32, most, least)
}

// TestSpot: P20.1, from where to where a spot shines, how narrow it is, and what it has no use for.
func TestSpot(t *testing.T) {
	a, b := of(5, 6, 7), of(-8, 9, 10)
	for _, v := range around() {
		shining(t, api.OK, spot(v, a, 0))
		shining(t, api.OK, spot(a, v, 16383))
		shining(t, api.ErrRange, spot(v, v, 5))
	}
	for _, v := range beyond() {
		shining(t, api.ErrRange, spot(v, a, 5))
		shining(t, api.ErrRange, spot(a, v, 5))
		shining(t, api.ErrRange, spot(v, v, 5))
	}
	shining(t, api.ErrRange, spot(a, a, 5))
	shining(t, api.ErrRange, spot(of(0, 0, 0), of(0, 0, 0), 5))
	shining(t, api.OK, spot(of(0, 0, 0), a, 5))
	shining(t, api.OK, spot(a, of(0, 0, 0), 5))
	for _, v := range []api.Vec{of(6, 6, 7), of(5, 5, 7), of(5, 6, 8)} {
		shining(t, api.OK, spot(a, v, 5))
	}
	each(func(n int) { shining(t, api.OK, spot(a, b, n)) }, 0, 1, 8192, 16382, 16383)
	each(func(n int) { shining(t, api.ErrRange, spot(a, b, n)) }, -1, -2, -9000, -16383, 16384, 16385, full, 1<<32, 1<<32+5, most, least)
	each(func(n int) {
		l := spot(a, b, 5)
		l.Prim = n
		shining(t, api.ErrRange, l)
	}, 1, 2, 3, 4, -1, 1<<32, most, least)
}

// TestArea: P20.1, of which thing a light is, and what it has no use for.
func TestArea(t *testing.T) {
	each(func(n int) { shining(t, api.OK, area(n)) }, 0, 2)
	each(func(n int) { shining(t, api.ErrName, area(n)) }, 1, 3, 4, 5, -1, -2, -4, 1023, 1024, 1<<32, 1<<32+2, most, least, least+2)
	for _, v := range append(append(around(), beyond()...), of(1, 0, 0), of(0, -1, 0), of(0, 0, 1)) {
		l := area(2)
		l.At = v
		shining(t, api.ErrRange, l)
		l.To = v
		shining(t, api.ErrRange, l)
		l.At = of(0, 0, 0)
		shining(t, api.ErrRange, l)
	}
	each(func(n int) {
		l := area(2)
		l.Cos = n
		shining(t, api.ErrRange, l)
	}, 1, -1, 9000, 16383, 16384, 1<<32, most, least)
	bare := lit(area(0))
	bare.Prims = nil
	check(t, bare, fault(api.ErrName, 3, 0))
	last := lit(area(1023), area(1024))
	last.Prims = slices.Repeat(sample().Prims[:1], 1024)
	check(t, last, fault(api.ErrName, 3, 1))
	last.Lights = last.Lights[:1]
	valid(t, last)
	last.Prims[1023] = sample().Prims[1]
	check(t, last, fault(api.ErrName, 3, 0))
}

// TestLightKinds: P20.1, kinds of lights that are none.
func TestLightKinds(t *testing.T) {
	each(func(n int) {
		for _, l := range append(sample().Lights, api.Light{Power: rgb(1, 1, 1)}, api.Light{}, area(1)) {
			l.Kind = n
			shining(t, api.ErrRange, l)
		}
	}, 0, 4, 5, -1, -2, -3, 257, 1<<32+1, 1<<32+3, most, least)
}
