package tests

import (
	"math"
	"math/rand"
	"slices"
	"testing"

	"loop.example/wholelight/impl"
)

func stuff(hue impl.Hue, other impl.Hue, grain int) impl.Stuff {
	return impl.Stuff{Hue: hue, Other: other, Grain: grain}
}

func lamp(at impl.Vec, hue impl.Hue) impl.Lamp {
	return impl.Lamp{At: at, Hue: hue}
}

// someStuffs are so many stuffs, all of them others.
func someStuffs(many int) []impl.Stuff {
	list := []impl.Stuff{}
	for i := range many {
		list = append(list, impl.Stuff{Hue: hue(i, 10, 255), Other: hue(255, 0, i), Grain: 7 * i % 51, Dull: 4096 - i, Shine: 100 * i, Glow: i})
	}
	return list
}

// sceneOf is a scene of things alone, with as many stuffs as there may be.
func sceneOf(things ...[]impl.Part) impl.Scene {
	return impl.Scene{Things: things, Stuffs: someStuffs(8)}
}

// fullScene is a scene with as many things, stuffs and lamps as there may be.
func fullScene() impl.Scene {
	s := sceneOf(
		one(), row(12), solid(cubePart(5)), solid(halfPart(vec(1, 0, 0), -300, 4)),
		longChain(23), solid(ballPart(vec(50, 0, 0), 9, 7)), solid(cubePart(3)), one(),
	)
	s.Lamps = []impl.Lamp{lamp(vec(300, -300, 300), white), lamp(vec(0, 0, 0), black), lamp(vec(-10, 20, -30), hue(1, 2, 3))}
	s.Sky, s.Dim = hue(10, 20, 30), 1000
	return s
}

// changedScene is the full scene with a change.
func changedScene(change func(s *impl.Scene)) impl.Scene {
	s := fullScene()
	change(&s)
	return s
}

func copyOfScene(s impl.Scene) impl.Scene {
	things := [][]impl.Part{}
	for _, list := range s.Things {
		things = append(things, slices.Clone(list))
	}
	s.Things, s.Stuffs, s.Lamps = things, slices.Clone(s.Stuffs), slices.Clone(s.Lamps)
	return s
}

func sameScenes(a impl.Scene, b impl.Scene) bool {
	same := slices.EqualFunc(a.Things, b.Things, func(x []impl.Part, y []impl.Part) bool { return slices.Equal(x, y) })
	return same && slices.Equal(a.Stuffs, b.Stuffs) && slices.Equal(a.Lamps, b.Lamps) && a.Sky == b.Sky && a.Dim == b.Dim
}

// noShares are numbers that are not from 0 to a limit.
func noShares(most int) []int {
	return append(beyond(most), -1)
}

// noStuffs are stuffs that are none, each by one fault.
func noStuffs() []impl.Stuff {
	list := []impl.Stuff{}
	add := func(change func(s *impl.Stuff)) {
		for _, s := range []impl.Stuff{{}, someStuffs(8)[5]} {
			change(&s)
			list = append(list, s)
		}
	}
	for _, none := range noHues() {
		add(func(s *impl.Stuff) { s.Hue = none })
		add(func(s *impl.Stuff) { s.Other = none })
	}
	for _, n := range noShares(impl.MaxGrain) {
		add(func(s *impl.Stuff) { s.Grain = n })
	}
	for _, n := range noShares(impl.One) {
		add(func(s *impl.Stuff) { s.Dull = n })
		add(func(s *impl.Stuff) { s.Shine = n })
		add(func(s *impl.Stuff) { s.Glow = n })
	}
	return list
}

// noSettings are scenes that are none, whatever their things are.
func noSettings() []impl.Scene {
	list := []impl.Scene{}
	add := func(change func(s *impl.Scene)) {
		list = append(list, changedScene(change))
	}
	for _, many := range []int{9, 10, 200} {
		add(func(s *impl.Scene) { s.Stuffs = someStuffs(many) })
	}
	for _, none := range noStuffs() {
		add(func(s *impl.Scene) { s.Stuffs[0] = none })
		add(func(s *impl.Scene) { s.Stuffs[7] = none })
	}
	for _, many := range []int{4, 5, 100} {
		add(func(s *impl.Scene) { s.Lamps = slices.Repeat([]impl.Lamp{lamp(vec(1, 2, 3), white)}, many) })
	}
	for i := range 3 {
		for index := range 3 {
			for _, n := range beyond(impl.MaxPlace) {
				add(func(s *impl.Scene) { s.Lamps[i].At = withPart(vec(1, -2, 3), index, n) })
			}
		}
		for _, none := range noHues() {
			add(func(s *impl.Scene) { s.Lamps[i].Hue = none })
		}
	}
	for _, none := range noHues() {
		add(func(s *impl.Scene) { s.Sky = none })
	}
	for _, n := range noShares(impl.One) {
		add(func(s *impl.Scene) { s.Dim = n })
	}
	return list
}

// noScenes are scenes that are none, each by one fault, in most of which the ray of the examples would meet something.
func noScenes() []impl.Scene {
	list := noSettings()
	for _, s := range noSettings() {
		s.Things = [][]impl.Part{}
		list = append(list, s)
	}
	for _, many := range []int{9, 10, 500} {
		list = append(list, changedScene(func(s *impl.Scene) { s.Things = slices.Repeat([][]impl.Part{solid(cubePart(5))}, many) }))
	}
	for i, none := range noSolids() {
		list = append(list, sceneOf(none), changedScene(func(s *impl.Scene) { s.Things[i%8] = none }))
	}
	return append(list, withoutStuffs()...)
}

// withoutStuffs are scenes with a leaf that has no stuff.
func withoutStuffs() []impl.Scene {
	a, b := cubePart(5), ballPart(vec(300, 0, 0), 5, 7)
	list := []impl.Scene{}
	for _, things := range [][][]impl.Part{
		{solid(b)}, {solid(a), solid(b)}, {solid(b), solid(a)}, {solid(a, b, madePart(either, 0, 1))}, {solid(b, a, madePart(either, 0, 1))},
		// Also where nothing of it is seen.
		{solid(a, b, madePart(less, 0, 1))}, {solid(a, a, b, madePart(both, 1, 2), madePart(either, 3, 0))}, {solid(b, movedPart(straight(1, 0, 0), 0))},
		{one()}, {solid(a), solid(a), solid(a), solid(a), solid(a), solid(a), solid(a), one()}, {row(8), solid(a)},
	} {
		for _, many := range []int{0, 1, 6, 7} {
			s := sceneOf(things...)
			s.Stuffs = s.Stuffs[:many]
			list = append(list, s)
		}
	}
	return append(list, impl.Scene{Things: [][]impl.Part{solid(a)}}, changedScene(func(s *impl.Scene) { s.Stuffs = nil }))
}

func TestLimitsOfScenes(t *testing.T) {
	if impl.MaxThings != 8 || impl.MaxLamps != 3 || impl.MaxGrain != 50 {
		t.Errorf("MaxThings %d, MaxLamps %d, MaxGrain %d", impl.MaxThings, impl.MaxLamps, impl.MaxGrain)
	}
}

func TestStuffOk(t *testing.T) {
	good := append(someStuffs(8), impl.Stuff{}, stuff(white, white, 50), stuff(black, white, 0), stuff(white, black, 1), stuff(hue(0, 255, 0), hue(255, 0, 255), 49))
	for _, n := range []int{0, 1, 2048, 4095, 4096} {
		good = append(good, impl.Stuff{Dull: n}, impl.Stuff{Shine: n}, impl.Stuff{Glow: n}, impl.Stuff{Dull: n, Shine: n, Glow: n}, impl.Stuff{Dull: 4096 - n, Shine: n, Glow: 4096})
	}
	for _, s := range good {
		if !impl.StuffOk(s) {
			t.Errorf("StuffOk(%v) = false", s)
		}
	}
	for n := -2; n <= 60; n++ {
		if s := stuff(white, black, n); impl.StuffOk(s) != fromTo(n, 0, 50) {
			t.Errorf("StuffOk(%v) = %v", s, impl.StuffOk(s))
		}
	}
	for _, s := range noStuffs() {
		if impl.StuffOk(s) {
			t.Errorf("StuffOk(%v) = true", s)
		}
	}
}

func TestStuffHueByHand(t *testing.T) {
	a, b, far := hue(255, 0, 1), hue(0, 128, 255), impl.Far
	cases := []struct {
		grain int
		v     impl.Vec
		want  impl.Hue
	}{
		{4, vec(0, 0, 0), a}, {4, vec(5, 5, 0), a}, {4, vec(5, 0, 0), b}, {4, vec(-1, 0, 0), b},
		{4, vec(3, 3, 3), a}, {4, vec(4, 3, 3), b}, {4, vec(7, 0, 0), b}, {4, vec(8, 0, 0), a}, {4, vec(0, 4, 0), b}, {4, vec(0, 0, 4), b},
		{4, vec(0, 5, 5), a}, {4, vec(5, 0, 5), a}, {4, vec(5, 5, 5), b},
		// Below 0, Floor goes down, so that no two neighbours on an axis are the same around 0.
		{4, vec(0, -1, 0), b}, {4, vec(0, 0, -1), b}, {4, vec(-4, 0, 0), b}, {4, vec(-5, 0, 0), a}, {4, vec(-8, 0, 0), a}, {4, vec(-9, 0, 0), b},
		{4, vec(-1, -1, 0), a}, {4, vec(-1, 0, -4), a}, {4, vec(-1, -1, -1), b}, {4, vec(-5, -1, 0), b}, {4, vec(-5, -5, -5), a}, {4, vec(-1, 4, 0), a}, {4, vec(5, -5, 0), b},
		{1, vec(0, 0, 0), a}, {1, vec(1, 0, 0), b}, {1, vec(-1, 0, 0), b}, {1, vec(-1, 1, 0), a}, {1, vec(1, 2, 3), a}, {1, vec(1, 2, 4), b}, {1, vec(-3, -2, -2), b},
		{3, vec(2, 2, 2), a}, {3, vec(3, 0, 0), b}, {3, vec(6, 0, 0), a}, {3, vec(-3, 0, 0), b}, {3, vec(-4, 0, 0), a}, {3, vec(-3, 3, 3), b},
		{50, vec(49, 49, 49), a}, {50, vec(50, 0, 0), b}, {50, vec(-50, 0, 0), b}, {50, vec(-51, 0, 0), a}, {50, vec(100, 0, 0), a}, {49, vec(49, 0, 0), b},
		{0, vec(0, 0, 0), a}, {0, vec(5, 0, 0), a}, {0, vec(-1, 2, -4), a}, {0, vec(1, 1, 1), a}, {0, vec(far, -far, far), a},
		{1, vec(far, 0, 0), a}, {1, vec(far, far, far-1), b}, {1, vec(1-far, 0, 0), b}, {3, vec(far, 0, 0), b}, {3, vec(0, -far, 0), a}, {4, vec(-far, -far, -far), a}, {50, vec(far, 0, 0), a}, {50, vec(0, 0, -far), b},
		{4, vec(far+1, 0, 0), black}, {0, vec(0, far+1, 0), black}, {1, vec(0, 0, -far-1), black},
	}
	for _, c := range cases {
		if got := impl.StuffHue(stuff(a, b, c.grain), c.v); got != c.want {
			t.Errorf("grain %d at %v: %v, want %v", c.grain, c.v, got, c.want)
		}
	}
	// What is not for the pattern does not change it.
	if got := impl.StuffHue(impl.Stuff{Hue: a, Other: b, Grain: 4, Dull: 0, Shine: 4096, Glow: 4096}, vec(5, 0, 0)); got != b {
		t.Errorf("%v of a mirror that glows", got)
	}
}

// hasOther tells whether the other colour is at a place, by where it is in two grains.
func hasOther(grain int, v impl.Vec) bool {
	other := false
	for index := range 3 {
		if grain > 0 && ((partOf(v, index)%(2*grain))+2*grain)%(2*grain) >= grain {
			other = !other
		}
	}
	return other
}

func TestStuffHueOfAllGrains(t *testing.T) {
	a, b := hue(1, 2, 3), hue(3, 2, 1)
	source := rand.New(rand.NewSource(10))
	near := func(most int) impl.Vec {
		return vec(source.Intn(2*most+1)-most, source.Intn(2*most+1)-most, source.Intn(2*most+1)-most)
	}
	for grain := range 51 {
		places := append(vectorsWithin(impl.Far), smallVectors(3)...)
		for n := -120; n <= 120; n++ {
			places = append(places, vec(n, 0, 0), vec(-1, n, 2), vec(7, -60, n))
		}
		for range 300 {
			places = append(places, near(130), near(impl.Far))
		}
		for _, v := range places {
			want := a
			if hasOther(grain, v) {
				want = b
			}
			if got := impl.StuffHue(stuff(a, b, grain), v); got != want {
				t.Fatalf("grain %d at %v: %v", grain, v, got)
			}
		}
	}
}

func TestStuffHueOfNone(t *testing.T) {
	for _, none := range noStuffs() {
		for _, v := range []impl.Vec{{}, vec(5, 0, 0), vec(-1, 0, 0)} {
			if got := impl.StuffHue(none, v); got != black {
				t.Errorf("StuffHue(%v, %v) = %v", none, v, got)
			}
		}
	}
	for index := range 3 {
		for _, n := range beyond(impl.Far) {
			for _, grain := range []int{0, 1, 4, 50} {
				v := withPart(vec(1, -2, 3), index, n)
				if got := impl.StuffHue(stuff(white, white, grain), v); got != black {
					t.Errorf("grain %d at %v: %v", grain, v, got)
				}
			}
		}
	}
}

func TestSceneOk(t *testing.T) {
	scenes := []impl.Scene{
		{}, fullScene(), {Things: [][]impl.Part{}, Stuffs: []impl.Stuff{}, Lamps: []impl.Lamp{}}, {Sky: white, Dim: 4096}, {Dim: 1}, {Sky: hue(0, 0, 255)},
		{Stuffs: someStuffs(1)}, {Stuffs: someStuffs(8)}, {Lamps: []impl.Lamp{{}}}, {Lamps: make([]impl.Lamp, 3)},
		sceneOf(), sceneOf(one()), sceneOf(longChain(24)), sceneOf(slices.Repeat([][]impl.Part{longChain(24)}, 8)...), sceneOf(slices.Repeat([][]impl.Part{one()}, 7)...),
		// Just as many stuffs as the leaves need.
		{Things: [][]impl.Part{solid(cubePart(5))}, Stuffs: someStuffs(1)}, {Things: [][]impl.Part{longChain(24), solid(cubePart(5))}, Stuffs: someStuffs(1)},
		{Things: [][]impl.Part{row(3), row(2)}, Stuffs: someStuffs(3)}, {Things: [][]impl.Part{row(7)}, Stuffs: someStuffs(7)},
		// The same stuff for all, and two stuffs that are the same.
		{Things: [][]impl.Part{solid(ballPart(vec(400, 400, 400), 200, 0)), solid(halfPart(vec(0, 1, 0), 20000, 0))}, Stuffs: make([]impl.Stuff, 2)},
	}
	for index := range 3 {
		for _, n := range []int{400, -400, 399, 0} {
			scenes = append(scenes, impl.Scene{Lamps: []impl.Lamp{lamp(withPart(vec(400, 400, -400), index, n), white)}})
			scenes = append(scenes, changedScene(func(s *impl.Scene) { s.Lamps[index] = lamp(withPart(vec(1, 2, 3), index, n), black) }))
		}
	}
	for many := range 9 {
		scenes = append(scenes, sceneOf(slices.Repeat([][]impl.Part{one()}, many)...), impl.Scene{Stuffs: someStuffs(many)})
	}
	for _, s := range scenes {
		kept := copyOfScene(s)
		if !impl.SceneOk(s) {
			t.Errorf("SceneOk(%v) = false", s)
		}
		if !sameScenes(s, kept) {
			t.Errorf("%v has become %v", kept, s)
		}
	}
	for n := -3; n <= 4100; n++ {
		if impl.SceneOk(impl.Scene{Dim: n}) != fromTo(n, 0, 4096) {
			t.Fatalf("SceneOk of Dim %d = %v", n, !fromTo(n, 0, 4096))
		}
	}
}

// sceneHasNothing asks what returns nothing of a scene, a ray or parts that are none.
func sceneHasNothing(t *testing.T, s impl.Scene, r impl.Ray, from int, to int) {
	t.Helper()
	if got, index := impl.SceneMeet(s, r, from); index != -1 || got != (impl.Meet{}) {
		t.Errorf("SceneMeet(%v, %v, %d) = %v, %d", s, r, from, got, index)
	}
	if impl.SceneBlocked(s, r, from, to) {
		t.Errorf("SceneBlocked(%v, %v, %d, %d) = true", s, r, from, to)
	}
}

func TestNoSceneHasNothing(t *testing.T) {
	for _, none := range noScenes() {
		kept := copyOfScene(none)
		if impl.SceneOk(none) {
			t.Errorf("SceneOk(%v) = true", none)
		}
		sceneHasNothing(t, none, along(), 0, impl.Far)
		sceneHasNothing(t, none, along(), -impl.Far, impl.Far)
		if boxes, hasOne := impl.SceneBoxes(none); len(boxes)+len(hasOne) != 0 {
			t.Errorf("SceneBoxes(%v) = %v, %v", none, boxes, hasOne)
		}
		for _, m := range []impl.Motion{straight(0, 0, 0), straight(-1, -1, -1), straight(1, 1, 1), straight(-300, 0, 0)} {
			if got, ok := impl.SceneMoved(m, none); ok || !sameScenes(got, impl.Scene{}) {
				t.Errorf("SceneMoved(%v, %v) = %v, %v", m, none, got, ok)
			}
		}
		if !sameScenes(none, kept) {
			t.Errorf("%v has become %v", kept, none)
		}
	}
}

func TestScenesAskedByNoRay(t *testing.T) {
	far := impl.Far
	for _, s := range []impl.Scene{fullScene(), sceneOf(solid(cubePart(400))), sceneOf(solid(halfPart(vec(1, 0, 0), 20000, 0))), sceneOf(row(12))} {
		if !impl.SceneBlocked(s, along(), -far, far) {
			t.Fatalf("%v is not met", s)
		}
		for _, none := range noRays() {
			sceneHasNothing(t, s, none, 0, far)
			sceneHasNothing(t, s, none, -far, far)
		}
		for _, from := range beyond(far) {
			sceneHasNothing(t, s, along(), from, far)
		}
		for _, to := range beyond(far) {
			if impl.SceneBlocked(s, along(), -far, to) || impl.SceneBlocked(s, along(), to, to) {
				t.Errorf("SceneBlocked(%v) up to %d = true", s, to)
			}
		}
	}
}

func TestSceneMeetByHand(t *testing.T) {
	r, left, far := along(), vec(-1, 0, 0), impl.Far
	nothing := impl.Meet{}
	ball, away, cube := solid(ballPart(impl.Vec{}, 5, 1)), solid(ballPart(vec(20, 0, 0), 5, 2)), solid(boxPart(vec(-5, -5, -5), vec(5, 5, 5), 3))
	empty := solid(cubePart(5), cubePart(5), madePart(less, 0, 1))
	all := solid(halfPart(vec(0, 1, 0), 0, 4))
	taken := solid(ballPart(impl.Vec{}, 5, 1), halfPart(vec(1, 0, 0), 0, 2), madePart(less, 0, 1))
	right, upper := solid(halfPart(vec(-1, 0, 0), -5, 5)), solid(halfPart(vec(0, -1, 0), -5, 6))
	aslant := ray(vec(-10, -10, 0), vec(199, 200, 0))
	cases := []struct {
		name   string
		things [][]impl.Part
		r      impl.Ray
		from   int
		want   impl.Meet
		index  int
	}{
		{"no things", nil, r, 0, nothing, -1},
		{"no things, from -Far", nil, r, -far, nothing, -1},
		{"one thing", [][]impl.Part{ball}, r, 0, meet(4096, 0, false, left, 1), 0},
		{"one that is not met", [][]impl.Part{solid(ballPart(vec(0, 6, 0), 5, 1))}, r, 0, nothing, -1},
		{"none that is met", [][]impl.Part{empty, all, solid(ballPart(vec(0, 6, 0), 5, 1))}, r, 0, nothing, -1},
		{"the nearer one", [][]impl.Part{ball, away}, r, 0, meet(4096, 0, false, left, 1), 0},
		{"the nearer one behind the other one", [][]impl.Part{away, ball}, r, 0, meet(4096, 0, false, left, 1), 1},
		{"the nearest one of many", [][]impl.Part{away, empty, taken, all, ball, away}, r, 0, meet(4096, 0, false, left, 1), 4},
		{"the last one alone", [][]impl.Part{empty, all, empty, empty, empty, empty, empty, away}, r, 0, meet(20480, 0, false, left, 2), 7},
		{"met as soon", [][]impl.Part{ball, cube}, r, 0, meet(4096, 0, false, left, 1), 0},
		{"met as soon, the other way round", [][]impl.Part{cube, ball}, r, 0, meet(4096, 0, false, left, 3), 0},
		{"met as soon, behind others", [][]impl.Part{away, empty, cube, ball, cube}, r, 0, meet(4096, 0, false, left, 3), 2},
		{"the same eight times", slices.Repeat([][]impl.Part{away}, 8), r, 0, meet(20480, 0, false, left, 2), 0},
		{"left as soon", [][]impl.Part{away, ball, cube}, r, 4096, meet(12288, 0, false, left, 1), 1},
		{"left as soon as another one is met", [][]impl.Part{solid(boxPart(vec(5, -1, -1), vec(9, 1, 1), 6)), cube}, r, 4096, meet(12288, 0, false, left, 6), 0},
		{"met as soon as another one is left", [][]impl.Part{cube, solid(boxPart(vec(5, -1, -1), vec(9, 1, 1), 6))}, r, 4096, meet(12288, 0, false, left, 3), 0},
		{"a part ahead of the other one", [][]impl.Part{right, upper}, aslant, 0, meet(307, 0, false, vec(0, -1, 0), 6), 1},
		{"a part behind it", [][]impl.Part{right, upper}, aslant, 307, meet(308, 0, false, vec(-1, 0, 0), 5), 0},
		{"a part ahead of it, in order", [][]impl.Part{upper, right}, aslant, 306, meet(307, 0, false, vec(0, -1, 0), 6), 0},
		// Behind a part, whatever is ahead of it.
		{"just ahead", [][]impl.Part{away, ball}, r, 4095, meet(4096, 0, false, left, 1), 1},
		{"just there", [][]impl.Part{away, ball}, r, 4096, meet(12288, 0, false, left, 1), 1},
		{"behind the nearer one", [][]impl.Part{away, ball}, r, 12288, meet(20480, 0, false, left, 2), 0},
		{"within the farther one", [][]impl.Part{away, ball}, r, 20480, meet(28672, 0, false, left, 2), 0},
		{"behind both", [][]impl.Part{away, ball}, r, 28672, nothing, -1},
		{"from Far", [][]impl.Part{away, ball, all, right}, r, far, nothing, -1},
		{"from -Far", [][]impl.Part{ball, solid(ballPart(vec(-30, 0, 0), 5, 2))}, r, -far, meet(-20480, 0, false, left, 2), 1},
		{"from 0, with one behind From", [][]impl.Part{solid(ballPart(vec(-30, 0, 0), 5, 2)), ball}, r, 0, meet(4096, 0, false, left, 1), 1},
		// A ray that begins within a thing meets where it comes out.
		{"out of one ahead of another one", [][]impl.Part{ball, cube}, ray(vec(0, 3, 0), vec(5, 0, 0)), 0, meet(3276, 0, false, vec(-85, -64, 0), 1), 0},
		{"out of a small one in a great one", [][]impl.Part{solid(cubePart(9)), solid(cubePart(2))}, ray(impl.Vec{}, vec(5, 0, 0)), 0, meet(1638, 0, false, left, 0), 1},
		{"into one within another one", [][]impl.Part{solid(cubePart(400)), ball}, r, 0, meet(4096, 0, false, left, 1), 1},
		// Leaf, Back and Stuff are those of the thing that counts.
		{"from behind", [][]impl.Part{away, taken}, r, 0, meet(8192, 1, true, left, 2), 1},
		{"another leaf of a made one", [][]impl.Part{away, solid(ballPart(vec(9, 0, 0), 1, 4), ballPart(vec(-2, 0, 0), 3, 5), madePart(either, 0, 1))}, r, 0, meet(4096, 1, false, left, 5), 1},
		{"half-space", [][]impl.Part{away, right}, r, 0, meet(12288, 0, false, left, 5), 1},
	}
	for _, c := range cases {
		if got, index := impl.SceneMeet(sceneOf(c.things...), c.r, c.from); got != c.want || index != c.index {
			t.Errorf("%s: %v, %d, want %v, %d", c.name, got, index, c.want, c.index)
		}
	}
}

func TestSceneBlockedByHand(t *testing.T) {
	far := impl.Far
	ball, away := solid(ballPart(impl.Vec{}, 5, 1)), solid(ballPart(vec(20, 0, 0), 5, 2))
	empty, all := solid(cubePart(5), cubePart(5), madePart(less, 0, 1)), solid(halfPart(vec(0, 1, 0), 0, 4))
	two := [][]impl.Part{away, ball}
	cases := []struct {
		name     string
		things   [][]impl.Part
		from, to int
		want     bool
	}{
		{"no things", nil, -far, far, false},
		{"nothing", [][]impl.Part{empty, empty}, -far, far, false},
		{"one of both", two, 0, 4097, true},
		{"the other one", two, 13000, 20481, true},
		{"both", two, -far, far, true},
		{"up to the nearer one", two, 0, 4096, false},
		{"between both", two, 12288, 20480, false},
		{"a part ahead", two, 12287, 20480, true},
		{"a part behind", two, 12288, 20481, true},
		{"within one of both", two, 8000, 8001, true},
		{"behind both", two, 28672, far, false},
		{"the last part", two, 28671, far, true},
		{"behind From", two, -far, 0, false},
		{"no parts", two, 8000, 8000, false},
		{"the wrong way round", two, 28672, 4096, false},
		{"the last one of many", [][]impl.Part{empty, empty, empty, empty, empty, empty, empty, ball}, 0, far, true},
		{"the first one of many", [][]impl.Part{ball, empty, empty, empty, empty, empty, empty, empty}, 0, far, true},
		{"all", [][]impl.Part{empty, all}, far - 1, far, true},
		{"no parts of all", [][]impl.Part{empty, all}, far, far, false},
	}
	for _, c := range cases {
		if got := impl.SceneBlocked(sceneOf(c.things...), along(), c.from, c.to); got != c.want {
			t.Errorf("%s: %v", c.name, got)
		}
	}
}

func TestSceneBoxesByHand(t *testing.T) {
	check := func(s impl.Scene, boxes []impl.Box, hasOne []bool) {
		t.Helper()
		if x, y := impl.SceneBoxes(s); !slices.Equal(x, boxes) || !slices.Equal(y, hasOne) {
			t.Errorf("SceneBoxes(%v) = %v, %v", s, x, y)
		}
	}
	half := solid(halfPart(vec(1, 0, 0), 0, 0))
	moved := solid(cubePart(2), movedPart(straight(1, 2, 3), 0))
	none := impl.Box{}
	check(impl.Scene{}, nil, nil)
	check(impl.Scene{Stuffs: someStuffs(8), Lamps: make([]impl.Lamp, 3), Sky: white}, nil, nil)
	check(sceneOf(solid(cubePart(5))), []impl.Box{cube(5)}, []bool{true})
	check(sceneOf(half), []impl.Box{none}, []bool{false})
	check(sceneOf(half, moved, half), []impl.Box{none, box(vec(-1, 0, 1), vec(3, 4, 5)), none}, []bool{false, true, false})
	// A box of one place at the origin is one, although it is the zero box.
	check(sceneOf(solid(cubePart(0)), half), []impl.Box{none, none}, []bool{true, false})
	// A thing without places may have a box, and one of six half-spaces has none.
	check(sceneOf(solid(cubePart(5), cubePart(5), madePart(less, 0, 1)), solid(ballPart(vec(400, 400, -400), 200, 7))), []impl.Box{cube(5), box(vec(200, 200, -600), vec(600, 600, -200))}, []bool{true, true})
	check(sceneOf(slices.Repeat([][]impl.Part{half}, 8)...), make([]impl.Box, 8), make([]bool, 8))
}

// someScene is a scene by chance, in which some things are there twice, made of other stuffs.
func someScene(source *rand.Rand, most int) impl.Scene {
	s := sceneOf()
	for range source.Intn(impl.MaxThings + 1) {
		list := someSolid(source, 1+source.Intn(most), smallMotions())
		if len(s.Things) > 0 && source.Intn(3) == 0 {
			list = slices.Clone(s.Things[source.Intn(len(s.Things))])
			for i := range list {
				if list[i].Kind <= impl.PartBox {
					list[i].Stuff = source.Intn(8)
				}
			}
		}
		s.Things = append(s.Things, list)
	}
	for range source.Intn(impl.MaxLamps + 1) {
		s.Lamps = append(s.Lamps, lamp(vec(source.Intn(99)-49, source.Intn(99)-49, source.Intn(99)-49), chanceHues(source, 1, 255)[0]))
	}
	s.Sky, s.Dim = chanceHues(source, 1, 255)[0], source.Intn(4097)
	return s
}

// firstOfAll tells which of all meets of all things is the first one behind a part, and how many things are met there.
func firstOfAll(meets [][]impl.Meet, from int) (impl.Meet, int, int) {
	first, index, many := impl.Meet{T: math.MaxInt}, -1, 0
	for i, list := range meets {
		for _, m := range list {
			switch {
			case m.T <= from || m.T > first.T:
			case m.T == first.T:
				many++
			default:
				first, index, many = m, i, 1
			}
		}
	}
	if index < 0 {
		return impl.Meet{}, -1, 0
	}
	return first, index, many
}

func TestWhatIsMetFirstIsTheFirstOfAllThings(t *testing.T) {
	source := rand.New(rand.NewSource(101))
	met, missed, tied, later := 0, 0, 0, 0
	for range 800 {
		s := someScene(source, 9)
		kept := copyOfScene(s)
		for _, r := range raysAround(source, 6) {
			meets := [][]impl.Meet{}
			froms := []int{-impl.Far, 0, impl.Far, source.Intn(20000) - 10000}
			for _, list := range s.Things {
				all := everyMeet(list, r)
				meets = append(meets, all)
				for _, m := range all {
					froms = append(froms, m.T-1, m.T)
				}
			}
			for _, from := range froms {
				want, index, many := firstOfAll(meets, from)
				if got, k := impl.SceneMeet(s, r, from); got != want || k != index {
					t.Fatalf("SceneMeet(%v, %v, %d) = %v, %d, want %v, %d", s, r, from, got, k, want, index)
				}
				switch {
				case index < 0:
					missed++
				case many > 1:
					tied++
				case index > 0:
					later++
				default:
					met++
				}
			}
		}
		if !sameScenes(s, kept) {
			t.Fatalf("%v has become %v", kept, s)
		}
	}
	if min(met, missed, tied, later) < 2000 {
		t.Errorf("%d meet the first thing, %d another one, %d more than one as soon, %d nothing", met, later, tied, missed)
	}
}

func TestScenesAreBlockedByTheirThings(t *testing.T) {
	source := rand.New(rand.NewSource(102))
	tally := blockedTally{}
	for range 600 {
		s := someScene(source, 5)
		for _, r := range raysAround(source, 4) {
			spans := []impl.Span{}
			for _, list := range s.Things {
				spans = append(spans, wayOf(list, r).spans()...)
			}
			tally.check(t, source, spans, func(from int, to int) bool { return impl.SceneBlocked(s, r, from, to) })
		}
	}
	tally.checkOften(t)
}

func TestSceneBoxesAreThoseOfTheThings(t *testing.T) {
	source := rand.New(rand.NewSource(103))
	many := [2]int{}
	for range 600 {
		s := someScene(source, 7)
		boxes, hasOne := impl.SceneBoxes(s)
		if len(boxes) != len(s.Things) || len(hasOne) != len(s.Things) {
			t.Fatalf("SceneBoxes(%v) = %v, %v", s, boxes, hasOne)
		}
		for i, list := range s.Things {
			if want, ok := impl.SolidBox(list); boxes[i] != want || hasOne[i] != ok {
				t.Fatalf("SceneBoxes of %v = %v, %v", list, boxes[i], hasOne[i])
			}
			if hasOne[i] {
				many[1]++
			} else {
				many[0]++
			}
			for range 5 {
				v := vec(source.Intn(31)-15, source.Intn(31)-15, source.Intn(31)-15)
				if hasOne[i] && impl.SolidHas(list, v) && !impl.BoxHas(boxes[i], v) {
					t.Fatalf("%v has %v, its box %v has not", list, v, boxes[i])
				}
			}
		}
	}
	if slices.Min(many[:]) < 300 {
		t.Errorf("so many things have no box, and one: %v", many)
	}
}

func TestSceneMovedByHand(t *testing.T) {
	s := fullScene()
	kept := copyOfScene(s)
	m := swap(vec(1, 2, 3))
	want := fullScene()
	for i, list := range want.Things {
		want.Things[i] = append(list, movedPart(m, len(list)-1))
	}
	want.Lamps = []impl.Lamp{lamp(vec(301, 302, 303), white), lamp(vec(1, 2, 3), black), lamp(vec(-19, -8, -27), hue(1, 2, 3))}
	if got, ok := impl.SceneMoved(m, s); !ok || !sameScenes(got, want) || !impl.SceneOk(got) {
		t.Errorf("SceneMoved(%v, %v) = %v, %v", m, s, got, ok)
	}
	if !sameScenes(s, kept) {
		t.Errorf("%v has become %v", kept, s)
	}
	// Nothing is to be moved, but all else stays.
	bare := impl.Scene{Stuffs: someStuffs(3), Sky: white, Dim: 4096}
	for _, x := range []impl.Scene{{}, bare} {
		for _, m := range []impl.Motion{straight(0, 0, 0), straight(400, -400, 400), m} {
			if got, ok := impl.SceneMoved(m, x); !ok || !sameScenes(got, x) {
				t.Errorf("SceneMoved(%v, %v) = %v, %v", m, x, got, ok)
			}
		}
	}
}

func TestSceneMovedToTheLimits(t *testing.T) {
	withLamps := func(list ...impl.Vec) impl.Scene {
		s := sceneOf(solid(cubePart(0)))
		for _, at := range list {
			s.Lamps = append(s.Lamps, lamp(at, white))
		}
		return s
	}
	cases := []struct {
		name string
		m    impl.Motion
		s    impl.Scene
		ok   bool
	}{
		{"lamp to the limit", straight(1, 0, 0), withLamps(vec(399, 0, 0)), true},
		{"lamp beyond it", straight(1, 0, 0), withLamps(vec(400, 0, 0)), false},
		{"lamp to the lower limit", straight(0, -100, 0), withLamps(vec(0, -300, 0)), true},
		{"lamp beyond that", straight(0, -100, 0), withLamps(vec(0, -301, 0)), false},
		{"the last lamp beyond it", straight(0, 0, 1), withLamps(vec(0, 0, 0), vec(1, 2, 3), vec(0, 0, 400)), false},
		{"lamp that is turned and moved", swap(vec(1, 0, 0)), withLamps(vec(0, 400, 0)), true},
		{"lamp that is turned and moved too far", swap(vec(1, 0, 0)), withLamps(vec(0, -400, 0)), false},
		{"lamp from one limit to the other one", straight(0, 0, -400), withLamps(vec(400, 400, 0)), true},
		{"lamp alone, too far", straight(1, 0, 0), impl.Scene{Lamps: []impl.Lamp{lamp(vec(400, 0, 0), white)}}, false},
		{"23 parts", swap(vec(1, 0, 0)), sceneOf(longChain(23), row(12)), true},
		{"24 parts", straight(0, 0, 0), sceneOf(longChain(24)), false},
		{"24 parts of the first thing", straight(0, 0, 0), sceneOf(longChain(24), one()), false},
		{"24 parts of the last thing", straight(0, 0, 0), sceneOf(one(), one(), longChain(24)), false},
		{"thing to the limit", straight(395, 0, 0), sceneOf(solid(cubePart(5))), true},
		{"thing beyond it", straight(396, 0, 0), sceneOf(solid(cubePart(5))), false},
		{"one of many beyond it", straight(0, 396, 0), sceneOf(solid(cubePart(4)), solid(cubePart(4)), solid(cubePart(5)), solid(cubePart(4))), false},
		{"half-space beyond it", straight(0, 1, 0), sceneOf(solid(halfPart(vec(0, 1, 0), 20000, 0))), false},
		{"together beyond it", straight(201, 0, 0), sceneOf(chain(vec(-100, 0, 0), straight(200, 0, 0))), false},
		{"no scene that would be brought back", straight(-1, 0, 0), withLamps(vec(401, 0, 0)), false},
		{"nine things", straight(0, 0, 0), sceneOf(slices.Repeat([][]impl.Part{one()}, 9)...), false},
		{"eight things", straight(0, 0, 0), sceneOf(slices.Repeat([][]impl.Part{one()}, 8)...), true},
	}
	for _, c := range cases {
		got, ok := impl.SceneMoved(c.m, c.s)
		if ok != c.ok || ok && !impl.SceneOk(got) || !ok && !sameScenes(got, impl.Scene{}) {
			t.Errorf("%s: %v, %v", c.name, got, ok)
		}
	}
	for _, none := range noMotions() {
		for _, s := range []impl.Scene{{}, fullScene(), sceneOf(solid(cubePart(0))), withLamps(impl.Vec{}), {Sky: white}} {
			if got, ok := impl.SceneMoved(none, s); ok || !sameScenes(got, impl.Scene{}) {
				t.Errorf("SceneMoved(%v, %v) = %v, %v", none, s, got, ok)
			}
		}
	}
}

func TestMovedScenesAreMetAtTheSamePlaces(t *testing.T) {
	source := rand.New(rand.NewSource(104))
	motions := smallMotions()
	many := 0
	for round := range 500 {
		s := someScene(source, 9)
		m := motions[round%len(motions)]
		moved, ok := impl.SceneMoved(m, s)
		if !ok {
			t.Fatalf("SceneMoved(%v, %v) is none", m, s)
		}
		for i, l := range s.Lamps {
			if want := lamp(plus(tableOf(m).of(l.At), m.Move), l.Hue); moved.Lamps[i] != want {
				t.Fatalf("%v moved by %v is %v", l, m, moved.Lamps[i])
			}
		}
		for _, r := range raysAround(source, 6) {
			x, i := impl.SceneMeet(s, r, 0)
			y, k := impl.SceneMeet(moved, impl.RayMoved(m, r), 0)
			x.Out = tableOf(m).of(x.Out)
			// Of a box at an edge another axis may be the first one behind a turn.
			if i >= 0 && s.Things[i][x.Leaf].Kind == impl.PartBox {
				x.Out = y.Out
			}
			if x != y || i != k {
				t.Fatalf("%v is met by %v at %v of %d, and moved by %v at %v of %d", s, r, x, i, m, y, k)
			}
			if i >= 0 {
				many++
			}
			if impl.SceneBlocked(s, r, 0, 5000) != impl.SceneBlocked(moved, impl.RayMoved(m, r), 0, 5000) {
				t.Fatalf("%v is blocked by %v or not, and moved by %v the other way", r, s, m)
			}
		}
	}
	if many < 1000 {
		t.Errorf("only %d meets", many)
	}
}

func TestScenesAreNewMemory(t *testing.T) {
	m := straight(1, 2, 3)
	// The lists have room behind them, and one thing is there twice.
	list := append(slices.Clone(one()), row(8)...)[:len(one())]
	s := fullScene()
	s.Things[1], s.Things[6], s.Things[7] = list, list, list[:1]
	s.Things, s.Stuffs, s.Lamps = s.Things[:7], s.Stuffs[:8], s.Lamps[:2]
	wide := impl.Scene{Things: append(slices.Clone(s.Things[:8]), list[:cap(list)]), Stuffs: s.Stuffs[:cap(s.Stuffs)], Lamps: s.Lamps[:cap(s.Lamps)]}
	before := copyOfScene(wide)
	first, ok := impl.SceneMoved(m, s)
	second, _ := impl.SceneMoved(m, s)
	again := copyOfScene(second)
	if !ok || len(first.Things) != 7 {
		t.Fatalf("SceneMoved(%v, %v) = %v, %v", m, s, first, ok)
	}
	for i, thing := range first.Things {
		clear(thing[:cap(thing)])
		for _, other := range first.Things[i+1:] {
			if !impl.SolidOk(other) {
				t.Errorf("the thing %d shares memory with one behind it", i)
			}
		}
	}
	clear(first.Things[:cap(first.Things)])
	clear(first.Stuffs[:cap(first.Stuffs)])
	clear(first.Lamps[:cap(first.Lamps)])
	if !sameScenes(second, again) || !sameScenes(wide, before) {
		t.Error("what SceneMoved returns shares memory")
	}
	boxes, hasOne := impl.SceneBoxes(s)
	otherBoxes, otherHasOne := impl.SceneBoxes(s)
	keptBoxes, keptHasOne := slices.Clone(otherBoxes), slices.Clone(otherHasOne)
	clear(boxes[:cap(boxes)])
	clear(hasOne[:cap(hasOne)])
	if !slices.Equal(otherBoxes, keptBoxes) || !slices.Equal(otherHasOne, keptHasOne) {
		t.Error("what SceneBoxes returns shares memory")
	}
	impl.SceneMeet(s, along(), 0)
	impl.SceneBlocked(s, along(), 0, impl.Far)
	if !sameScenes(wide, before) {
		t.Errorf("%v has become %v", before, wide)
	}
}
