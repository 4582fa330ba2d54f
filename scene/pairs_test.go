package scene_test

import (
	"math/rand/v2"
	"slices"
	"testing"

	"skylight/api"
	"skylight/scene"
)

// fall is a change that puts the sample at fault, and the fault.
type fall struct {
	change func(s *api.Scene)
	want   scene.Fault
}

// matFalls holds the falls of the first part, in the order of its conditions.
func matFalls() []fall {
	all := []fall{
		{func(s *api.Scene) { s.Mats = nil }, fault(api.ErrLack, 1, 0)},
		{func(s *api.Scene) { s.Mats = slices.Repeat(s.Mats, 20)[:65] }, fault(api.ErrMany, 1, 0)},
	}
	for item := range sample().Mats {
		want := fault(api.ErrRange, 1, item)
		all = append(all,
			fall{func(s *api.Scene) { s.Mats[item].Color.G = full + 1 }, want},
			fall{func(s *api.Scene) { s.Mats[item].Extra = -1 }, want},
			fall{func(s *api.Scene) { s.Mats[item].Kind = 5 }, want},
		)
	}
	return all
}

// primFalls holds those of the second part.
func primFalls() []fall {
	all := []fall{{func(s *api.Scene) { s.Prims = slices.Repeat(s.Prims, 300)[:1025] }, fault(api.ErrMany, 2, 0)}}
	for item, p := range sample().Prims {
		all = append(all, fall{func(s *api.Scene) { s.Prims[item].A.Y = edge + 1 }, fault(api.ErrRange, 2, item)})
		// Only what has three places is told to be flat.
		if p.Kind == 1 {
			all = append(all, fall{func(s *api.Scene) { s.Prims[item].B = s.Prims[item].A }, fault(api.ErrFlat, 2, item)})
		}
		all = append(all, fall{func(s *api.Scene) { s.Prims[item].Mat = 4 }, fault(api.ErrName, 2, item)})
	}
	return all
}

// lightFalls holds those of the third part.
func lightFalls() []fall {
	all := []fall{
		{func(s *api.Scene) { s.Lights = nil }, fault(api.ErrLack, 3, 0)},
		{func(s *api.Scene) { s.Lights = slices.Repeat(s.Lights, 30)[:65] }, fault(api.ErrMany, 3, 0)},
	}
	for item, l := range sample().Lights {
		want := fault(api.ErrRange, 3, item)
		all = append(all,
			fall{func(s *api.Scene) { s.Lights[item].Power.B = -1 }, want},
			fall{func(s *api.Scene) { s.Lights[item].At.X = edge + 1 }, want},
			fall{func(s *api.Scene) { s.Lights[item].To.X = -edge - 1 }, want},
			fall{func(s *api.Scene) { s.Lights[item].Cos = -1 }, want},
			fall{func(s *api.Scene) { s.Lights[item].Kind = 4 }, want},
		)
		switch l.Kind {
		case 3:
			all = append(all, fall{func(s *api.Scene) { s.Lights[item].Prim = 3 }, fault(api.ErrName, 3, item)})
		default:
			all = append(all, fall{func(s *api.Scene) { s.Lights[item].Prim = 3 }, want})
		}
	}
	return all
}

// lastFalls holds those of the fourth part and of the fifth.
func lastFalls() []fall {
	camera, setup := fault(api.ErrRange, 4, 0), fault(api.ErrRange, 5, 0)
	return []fall{
		{func(s *api.Scene) { s.Camera.Eye = s.Camera.To }, camera},
		{func(s *api.Scene) { s.Camera.To.Z = edge + 1 }, camera},
		{func(s *api.Scene) { s.Camera.Up.Z = near + 1 }, camera},
		{func(s *api.Scene) { s.Camera.W = 0 }, camera},
		{func(s *api.Scene) { s.Camera.H = 257 }, camera},
		{func(s *api.Scene) { s.Camera.Zoom = 0 }, camera},
		{func(s *api.Scene) { s.Camera.Lens = 1<<12 + 1 }, camera},
		{func(s *api.Scene) { s.Camera.Focus = 0 }, camera},
		{func(s *api.Scene) { s.Camera.Up = of(0, 0, -5) }, fault(api.ErrFlat, 4, 0)},
		{func(s *api.Scene) { s.Camera.Up = of(0, 0, 0) }, fault(api.ErrFlat, 4, 0)},
		{func(s *api.Scene) { s.Setup.Count = -1 }, setup},
		{func(s *api.Scene) { s.Setup.Depth = 0 }, setup},
		{func(s *api.Scene) { s.Setup.Batch = 0 }, setup},
		{func(s *api.Scene) { s.Setup.Room = 4097 }, setup},
		{func(s *api.Scene) { s.Setup.Stripes = 0 }, setup},
		{func(s *api.Scene) { s.Setup.Crew = 65 }, setup},
		{func(s *api.Scene) { s.Setup.Tries = 0 }, setup},
	}
}

// falls holds those of all parts, in the order in which the conditions stand.
func falls() []fall {
	return slices.Concat(matFalls(), primFalls(), lightFalls(), lastFalls())
}

// together is the sample after all of the changes, the last one first, so that none undoes what one ahead of it did.
func together(all ...fall) api.Scene {
	return changed(func(s *api.Scene) {
		for _, f := range slices.Backward(all) {
			f.change(s)
		}
	})
}

// TestPairs: P20.1, each fault alone, and each two at once, in one item, in two items and in two parts: the first one is told.
func TestPairs(t *testing.T) {
	all := falls()
	for place, f := range all {
		check(t, together(f), f.want)
		for _, later := range all[place+1:] {
			check(t, together(f, later), f.want)
		}
	}
}

// TestSeveral: P20.1, more faults at once.
func TestSeveral(t *testing.T) {
	random := rand.New(rand.NewPCG(20, 1))
	all := falls()
	check(t, together(all...), all[0].want)
	for range 5000 {
		var some []fall
		for _, f := range all {
			if random.IntN(len(all)) < 4 {
				some = append(some, f)
			}
		}
		if len(some) > 0 {
			check(t, together(some...), some[0].want)
		}
	}
}

// TestOrder: P20.1, by cases: two faults at once, of which the one that stands later, or is of the greater number, is not told.
func TestOrder(t *testing.T) {
	s := sample()
	for _, c := range []struct {
		want   scene.Fault
		change func(s *api.Scene)
	}{
		{fault(api.ErrLack, 1, 0), func(s *api.Scene) { s.Mats, s.Lights = nil, nil }},
		{fault(api.ErrLack, 1, 0), func(s *api.Scene) { s.Mats, s.Prims = nil, rows(1025) }},
		{fault(api.ErrRange, 1, 3), func(s *api.Scene) { s.Mats[3].Extra, s.Prims[0].Kind = 0, 0 }},
		{fault(api.ErrRange, 1, 1), func(s *api.Scene) { s.Mats[1].Extra, s.Mats[2].Kind = 1, 0 }},
		{fault(api.ErrMany, 2, 0), func(s *api.Scene) { s.Prims, s.Lights = rows(1025), nil }},
		{fault(api.ErrName, 2, 0), func(s *api.Scene) { s.Prims[0].Mat, s.Prims[1].R = 4, 3 }},
		{fault(api.ErrName, 2, 0), func(s *api.Scene) { s.Prims[0].Mat, s.Prims[2].B = 4, s.Prims[2].A }},
		{fault(api.ErrFlat, 2, 0), func(s *api.Scene) { s.Prims[0].Mat, s.Prims[0].B = 4, of(0, 0, 0) }},
		{fault(api.ErrRange, 2, 1), func(s *api.Scene) { s.Prims[1].Mat, s.Prims[1].R = 4, 3 }},
		{fault(api.ErrRange, 2, 1), func(s *api.Scene) { s.Prims[1].R, s.Prims[2].Mat = 3, 4 }},
		{fault(api.ErrRange, 2, 2), func(s *api.Scene) { s.Prims[2].Kind, s.Lights = 3, nil }}, // the thing of a light
		{fault(api.ErrName, 2, 3), func(s *api.Scene) { s.Prims[3].Mat, s.Lights[0].Power = 4, rgb(0, 0, 0) }},
		{fault(api.ErrLack, 3, 0), func(s *api.Scene) { s.Lights, s.Camera.W = nil, 0 }},
		{fault(api.ErrName, 3, 0), func(s *api.Scene) { s.Lights[0], s.Lights[1].Power = area(1), rgb(0, 0, 0) }},
		{fault(api.ErrName, 3, 0), func(s *api.Scene) { s.Lights[0], s.Lights[1].Cos = area(4), -1 }},
		{fault(api.ErrRange, 3, 0), func(s *api.Scene) { s.Lights[0].To, s.Lights[1].Power = of(1, 0, 0), rgb(0, 0, 0) }},
		{fault(api.ErrRange, 3, 2), func(s *api.Scene) { s.Lights[2].Prim, s.Lights[2].Power = 1, rgb(0, 0, 0) }},
		{fault(api.ErrRange, 3, 2), func(s *api.Scene) { s.Lights[2].Prim, s.Lights[2].Cos = 1, 1 }},
		{fault(api.ErrName, 3, 2), func(s *api.Scene) { s.Lights[2].Prim, s.Camera.Zoom = 1, 0 }},
		{fault(api.ErrRange, 4, 0), func(s *api.Scene) { s.Camera.Up, s.Camera.W = of(0, 0, 1), 0 }},
		{fault(api.ErrRange, 4, 0), func(s *api.Scene) { s.Camera.Up, s.Camera.Focus = of(0, 0, 1), 0 }},
		{fault(api.ErrRange, 4, 0), func(s *api.Scene) { s.Camera.Lens, s.Setup.Depth = -1, 0 }},
		{fault(api.ErrFlat, 4, 0), func(s *api.Scene) { s.Camera.Up, s.Setup.Depth = of(0, 0, 1), 0 }},
		{fault(api.ErrRange, 5, 0), func(s *api.Scene) { s.Setup.Count, s.Setup.Tries = -1, 0 }},
	} {
		check(t, changed(c.change), c.want)
	}
	valid(t, s)
}
