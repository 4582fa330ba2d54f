package scene_test

import (
	"math/rand/v2"
	"testing"

	"skylight/api"
	"skylight/prim"
	"skylight/scene"
)

// condition is one that a scene has to meet: whether it does, and the fault if not.
type condition struct {
	holds bool
	fault scene.Fault
}

// isIn tells whether all numbers are from low to high.
func isIn(low, high int, numbers ...int) bool {
	for _, n := range numbers {
		if n < low || n > high {
			return false
		}
	}
	return true
}

// isPlace tells whether v is a place.
func isPlace(v api.Vec) bool { return isIn(-edge, edge, v.X, v.Y, v.Z) }

// counted holds the conditions on the number of a part's items.
func counted(part, low, high, n int) []condition {
	return []condition{{n >= low, fault(api.ErrLack, part, 0)}, {n <= high, fault(api.ErrMany, part, 0)}}
}

// matConditions holds those of the first part.
func matConditions(s api.Scene) []condition {
	all := counted(1, 1, 64, len(s.Mats))
	for item, m := range s.Mats {
		bounds := map[int][2]int{1: {0, 0}, 2: {0, 0}, 3: {16384, 65536}, 4: {1, 64}}[m.Kind]
		right := isIn(1, 4, m.Kind) && isIn(bounds[0], bounds[1], m.Extra) && isIn(0, full, m.Color.R, m.Color.G, m.Color.B)
		all = append(all, condition{right, fault(api.ErrRange, 1, item)})
	}
	return all
}

// primConditions holds those of the second part.
func primConditions(s api.Scene) []condition {
	all := counted(2, 0, 1024, len(s.Prims))
	for item, p := range s.Prims {
		code := api.ErrRange
		if p.Kind == 1 && isPlace(p.A) && isPlace(p.B) && isPlace(p.C) {
			code = api.ErrFlat
		}
		all = append(all, condition{prim.Right(p), fault(code, 2, item)}, condition{isIn(0, len(s.Mats)-1, p.Mat), fault(api.ErrName, 2, item)})
	}
	return all
}

// lightConditions holds those of the third part.
func lightConditions(s api.Scene) []condition {
	all := counted(3, 1, 64, len(s.Lights))
	for item, l := range s.Lights {
		none, w := api.Vec{}, l.Power
		right := isIn(0, bright, w.R, w.G, w.B) && w != rgb(0, 0, 0) && map[int]bool{
			1: isPlace(l.At) && l.To == none && l.Cos == 0 && l.Prim == 0,
			2: isPlace(l.At) && isPlace(l.To) && l.At != l.To && isIn(0, 16383, l.Cos) && l.Prim == 0,
			3: l.At == none && l.To == none && l.Cos == 0,
		}[l.Kind]
		all = append(all, condition{right, fault(api.ErrRange, 3, item)})
		if l.Kind == 3 {
			all = append(all, condition{isIn(0, len(s.Prims)-1, l.Prim) && s.Prims[l.Prim].Kind == 1, fault(api.ErrName, 3, item)})
		}
	}
	return all
}

// lastConditions holds those of the fourth part and of the fifth.
func lastConditions(s api.Scene) []condition {
	c, u := s.Camera, s.Setup
	focus := isIn(1, 1<<19, c.Focus)
	if c.Lens == 0 {
		focus = c.Focus == 0
	}
	a, b := [3]int{c.To.X - c.Eye.X, c.To.Y - c.Eye.Y, c.To.Z - c.Eye.Z}, [3]int{c.Up.X, c.Up.Y, c.Up.Z}
	across := a[0]*b[1] != a[1]*b[0] || a[1]*b[2] != a[2]*b[1] || a[2]*b[0] != a[0]*b[2]
	ranges := isPlace(c.Eye) && isPlace(c.To) && c.Eye != c.To && isIn(-near, near, b[0], b[1], b[2]) && isIn(1, 256, c.W, c.H) && isIn(1, 1<<16, c.Zoom) && isIn(0, 1<<12, c.Lens) && focus
	setup := isIn(0, 1<<20, u.Count) && isIn(1, 16, u.Depth) && isIn(1, 1<<16, u.Batch) && isIn(1, 4096, u.Room) && isIn(1, 256, u.Stripes) && isIn(1, 64, u.Crew) && isIn(1, 1000, u.Tries)
	return []condition{{ranges, fault(api.ErrRange, 4, 0)}, {across, fault(api.ErrFlat, 4, 0)}, {setup, fault(api.ErrRange, 5, 0)}}
}

// wanted is the fault of the first condition that does not hold.
func wanted(s api.Scene) scene.Fault {
	for _, conditions := range [][]condition{matConditions(s), primConditions(s), lightConditions(s), lastConditions(s)} {
		for _, c := range conditions {
			if !c.holds {
				return c.fault
			}
		}
	}
	return scene.Fault{}
}

// coordinates holds where those of v are.
func coordinates(v *api.Vec) []*int { return []*int{&v.X, &v.Y, &v.Z} }

// channels holds where those of w are.
func channels(w *api.RGB) []*int { return []*int{&w.R, &w.G, &w.B} }

// numbers holds where all numbers of s are, but the seed.
func numbers(s *api.Scene) []*int {
	c, u := &s.Camera, &s.Setup
	all := []*int{&c.W, &c.H, &c.Zoom, &c.Lens, &c.Focus, &u.Count, &u.Depth, &u.Batch, &u.Room, &u.Stripes, &u.Crew, &u.Tries}
	for _, v := range []*api.Vec{&c.Eye, &c.To, &c.Up} {
		all = append(all, coordinates(v)...)
	}
	for item := range s.Mats {
		m := &s.Mats[item]
		all = append(append(all, &m.Kind, &m.Extra), channels(&m.Color)...)
	}
	for item := range s.Prims {
		p := &s.Prims[item]
		all = append(all, &p.Kind, &p.R, &p.Mat)
		for _, v := range []*api.Vec{&p.A, &p.B, &p.C} {
			all = append(all, coordinates(v)...)
		}
	}
	for item := range s.Lights {
		l := &s.Lights[item]
		all = append(append(all, &l.Kind, &l.Cos, &l.Prim), channels(&l.Power)...)
		all = append(append(all, coordinates(&l.At)...), coordinates(&l.To)...)
	}
	return all
}

// edges holds numbers at which something ends, and small ones.
func edges() []int {
	all := []int{most, least, most - 1, least + 1, 1<<32 + 1, 1 << 62, 1<<40 + 1}
	for n := -3; n <= 10; n++ {
		all = append(all, n)
	}
	for _, n := range []int{16, 64, 256, 1000, 4096, 16384, full, thick, edge, near, bright} {
		all = append(all, n-1, n, n+1, -n, -n-1)
	}
	return all
}

// TestEachNumber: P20.1, by the definition: each number of the sample, at each edge.
func TestEachNumber(t *testing.T) {
	for place := range numbers(new(sample())) {
		for _, n := range edges() {
			s := sample()
			*numbers(&s)[place] = n
			check(t, s, wanted(s))
		}
	}
}

// TestSomeNumbers: P20.1, by the definition: some numbers of the sample at once, and lists of other lengths; each error of each part comes.
func TestSomeNumbers(t *testing.T) {
	random, seen := rand.New(rand.NewPCG(20, 2)), map[scene.Fault]int{}
	for round := range 60000 {
		s := sample()
		switch cut := random.IntN(5); round % 8 {
		case 0:
			s.Mats = s.Mats[:min(cut, 4)]
		case 1:
			s.Prims = s.Prims[:min(cut, 4)]
		case 2:
			s.Lights = s.Lights[:min(cut, 3)]
		case 3:
			s.Camera.Up = of(0, cut/4, cut-1)
		}
		all, around := numbers(&s), edges()
		for range random.IntN(4) {
			*all[random.IntN(len(all))] = around[random.IntN(len(around))]
		}
		want := wanted(s)
		if got := scene.Check(s); got != want || scene.Right(s) != (want == scene.Fault{}) {
			t.Fatalf("the fault is %v, want %v, of %s", got, want, told(s))
		}
		want.Item = 0
		seen[want]++
	}
	for _, f := range append(falls(), fall{want: scene.Fault{}}) {
		if f.want.Item = 0; f.want.Err != api.ErrMany && seen[f.want] < 50 {
			t.Errorf("%v came %d times only", f.want, seen[f.want])
		}
	}
}
