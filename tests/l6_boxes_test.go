package tests

import (
	"math"
	"slices"
	"testing"

	"loop.example/wholelight/impl"
)

func box(low impl.Vec, high impl.Vec) impl.Box {
	return impl.Box{Low: low, High: high}
}

// cube is the box with all places whose parts are from -most to most.
func cube(most int) impl.Box {
	return box(vec(-most, -most, -most), vec(most, most, most))
}

// boxesWithin are all boxes whose corners have parts from low to high.
func boxesWithin(low int, high int) []impl.Box {
	list := []impl.Box{}
	for _, a := range smallVectors(max(-low, high)) {
		for _, b := range smallVectors(max(-low, high)) {
			if a.X <= b.X && a.Y <= b.Y && a.Z <= b.Z && min(a.X, a.Y, a.Z) >= low && max(b.X, b.Y, b.Z) <= high {
				list = append(list, box(a, b))
			}
		}
	}
	return list
}

// someBoxes are boxes of all sizes: of one place, flat, long and great ones, near and far, and at the limits.
func someBoxes() []impl.Box {
	return []impl.Box{
		{}, box(vec(3, -4, 5), vec(3, -4, 5)), box(vec(reach, -reach, reach), vec(reach, -reach, reach)),
		box(vec(3, -9, -9), vec(3, 9, 9)), box(vec(-9, 0, -9), vec(9, 0, 9)), box(vec(-9, -9, -1), vec(9, 9, -1)),
		box(vec(-5, 0, 0), vec(5, 0, 0)), box(vec(2, -7, 1), vec(2, 7, 1)), box(vec(0, 0, -reach), vec(0, 0, reach)),
		cube(1), cube(5), cube(60), cube(399), cube(reach - 1), cube(reach),
		box(vec(1, 2, 3), vec(4, 6, 8)), box(vec(-10, -20, -30), vec(-1, -2, -3)), box(vec(-100, 50, -3), vec(20, 700, 4)),
		box(vec(-reach, -reach, -reach), vec(0, 0, 0)), box(vec(0, 0, 0), vec(reach, reach, reach)), box(vec(-reach, 7, 700), vec(reach, 8, reach)),
		box(vec(-4, 3, -1), vec(5, 5, 5)), box(vec(199, -3, 50), vec(200, -2, 51)),
	}
}

// noBoxes are boxes that are none, each by one fault.
func noBoxes() []impl.Box {
	list := []impl.Box{}
	for index := range 3 {
		for _, n := range append(beyond(reach), impl.MaxLong, impl.Far) {
			low, high := vec(-5, -6, -7), vec(7, 6, 5)
			if n < 0 {
				low = withPart(low, index, n)
			} else {
				high = withPart(high, index, n)
			}
			list = append(list, box(low, high))
			// Both corners beyond the limit, in the right order.
			list = append(list, box(withPart(low, index, n), withPart(high, index, n)))
		}
		for _, by := range []int{1, 2, 40, reach} {
			list = append(list, box(withPart(vec(0, 0, 0), index, 1), withPart(vec(0, 0, 0), index, 1-by)))
			list = append(list, box(withPart(vec(-9, -9, -9), index, 3), withPart(vec(9, 9, 9), index, 3-by)))
		}
		list = append(list, box(withPart(impl.Vec{}, index, reach), withPart(impl.Vec{}, index, -reach)))
	}
	return append(list, box(vec(5, 5, 5), vec(-5, -5, -5)), box(vec(math.MinInt, math.MinInt, math.MinInt), vec(math.MaxInt, math.MaxInt, math.MaxInt)))
}

// placesOf are all places of a box.
func placesOf(b impl.Box) []impl.Vec {
	list := []impl.Vec{}
	for x := b.Low.X; x <= b.High.X; x++ {
		for y := b.Low.Y; y <= b.High.Y; y++ {
			for z := b.Low.Z; z <= b.High.Z; z++ {
				list = append(list, vec(x, y, z))
			}
		}
	}
	return list
}

func TestBoxOk(t *testing.T) {
	for _, b := range append(someBoxes(), boxesWithin(-1, 1)...) {
		if !impl.BoxOk(b) {
			t.Errorf("BoxOk(%v) = false", b)
		}
	}
	for _, b := range noBoxes() {
		if impl.BoxOk(b) {
			t.Errorf("BoxOk(%v) = true", b)
		}
	}
	for index := range 3 {
		for _, n := range []int{-800, 800} {
			at := withPart(vec(1, 2, 3), index, n)
			if !impl.BoxOk(box(at, at)) {
				t.Errorf("the box of the place %v is none", at)
			}
		}
		for _, n := range []int{-801, 801} {
			at := withPart(vec(1, 2, 3), index, n)
			if impl.BoxOk(box(at, at)) {
				t.Errorf("the box of the place %v is one", at)
			}
		}
		if impl.BoxOk(box(withPart(cube(800).Low, index, -801), cube(800).High)) || impl.BoxOk(box(cube(800).Low, withPart(cube(800).High, index, 801))) {
			t.Errorf("a box beyond the limits of part %d is one", index)
		}
	}
}

func TestBoxHas(t *testing.T) {
	for _, b := range boxesWithin(-1, 1) {
		places := placesOf(b)
		for _, v := range smallVectors(2) {
			if got := impl.BoxHas(b, v); got != slices.Contains(places, v) {
				t.Fatalf("BoxHas(%v, %v) = %v", b, v, got)
			}
		}
	}
	for _, b := range someBoxes() {
		for index := range 3 {
			checkSides(t, b, index)
		}
	}
	for _, b := range noBoxes() {
		for _, v := range append(vectorsWithin(reach), b.Low, b.High) {
			if impl.BoxHas(b, v) {
				t.Errorf("BoxHas(%v, %v) = true, of none", b, v)
			}
		}
	}
}

// checkSides asks a box for places on its faces, and for those that are just beyond them or much farther out.
func checkSides(t *testing.T, b impl.Box, index int) {
	t.Helper()
	low, high := partOf(b.Low, index), partOf(b.High, index)
	for _, inner := range []int{low, high, (low + high) / 2} {
		for _, corner := range []impl.Vec{b.Low, b.High} {
			if v := withPart(corner, index, inner); !impl.BoxHas(b, v) {
				t.Errorf("BoxHas(%v, %v) = false", b, v)
			}
		}
	}
	for _, outer := range append(beyond(reach), low-1, high+1) {
		for _, corner := range []impl.Vec{b.Low, b.High} {
			if v := withPart(corner, index, outer); impl.BoxHas(b, v) {
				t.Errorf("BoxHas(%v, %v) = true", b, v)
			}
		}
	}
}

// partOf returns the part of a vector with an index.
func partOf(v impl.Vec, index int) int {
	return [3]int{v.X, v.Y, v.Z}[index]
}

func TestBoxCells(t *testing.T) {
	for _, b := range append(boxesWithin(-1, 1), box(vec(-4, 3, -1), vec(5, 5, 5)), cube(5), box(vec(1, 2, 3), vec(4, 6, 8))) {
		if got := impl.BoxCells(b); got != len(placesOf(b)) {
			t.Errorf("BoxCells(%v) = %d, want %d", b, got, len(placesOf(b)))
		}
	}
	cases := []struct {
		b    impl.Box
		want int
	}{
		{impl.Box{}, 1},
		{box(vec(800, -800, 800), vec(800, -800, 800)), 1},
		{cube(5), 1331},
		{box(vec(1, 2, 3), vec(4, 6, 8)), 120},
		{box(vec(-800, 0, 0), vec(800, 0, 0)), 1601},
		{cube(800), 1601 * 1601 * 1601},
		{box(vec(-800, -800, 800), vec(800, 800, 800)), 1601 * 1601},
	}
	for _, c := range cases {
		if got := impl.BoxCells(c.b); got != c.want {
			t.Errorf("BoxCells(%v) = %d, want %d", c.b, got, c.want)
		}
	}
	for _, b := range noBoxes() {
		if got := impl.BoxCells(b); got != 0 {
			t.Errorf("BoxCells(%v) = %d, of none", b, got)
		}
	}
}

func TestTwoBoxesByTheirPlaces(t *testing.T) {
	list := boxesWithin(-1, 1)
	for _, a := range list {
		for _, b := range list {
			both := 0
			for _, v := range placesOf(a) {
				if impl.BoxHas(b, v) {
					both++
				}
			}
			checkTwo(t, a, b, both)
		}
	}
}

// checkTwo holds what two boxes have together against their places, of which both have so many.
func checkTwo(t *testing.T, a impl.Box, b impl.Box, both int) {
	t.Helper()
	if got := impl.BoxIn(a, b); got != (both == impl.BoxCells(a)) {
		t.Fatalf("BoxIn(%v, %v) = %v", a, b, got)
	}
	common, ok := impl.BoxBoth(a, b)
	if ok != (both > 0) || ok && impl.BoxCells(common) != both || !ok && common != (impl.Box{}) {
		t.Fatalf("BoxBoth(%v, %v) = %v, %v, with %d places", a, b, common, ok, both)
	}
	if ok && (!impl.BoxIn(common, a) || !impl.BoxIn(common, b)) {
		t.Fatalf("BoxBoth(%v, %v) = %v", a, b, common)
	}
	// The least box touches a or b with each of its faces.
	joined := impl.BoxJoin(a, b)
	for index := range 3 {
		low := min(partOf(a.Low, index), partOf(b.Low, index))
		high := max(partOf(a.High, index), partOf(b.High, index))
		if partOf(joined.Low, index) != low || partOf(joined.High, index) != high {
			t.Fatalf("BoxJoin(%v, %v) = %v", a, b, joined)
		}
	}
}

func TestTwoBoxesByHand(t *testing.T) {
	b := cube(5)
	cases := []struct {
		a, b         impl.Box
		both         impl.Box
		ok           bool
		joined       impl.Box
		aInB, otherB bool
	}{
		{b, b, b, true, b, true, true},
		{b, box(vec(5, 0, 0), vec(9, 9, 0)), box(vec(5, 0, 0), vec(5, 5, 0)), true, box(vec(-5, -5, -5), vec(9, 9, 5)), false, false},
		{b, box(vec(6, 0, 0), vec(9, 9, 0)), impl.Box{}, false, box(vec(-5, -5, -5), vec(9, 9, 5)), false, false},
		{b, box(vec(5, 5, 5), vec(7, 8, 9)), box(vec(5, 5, 5), vec(5, 5, 5)), true, box(vec(-5, -5, -5), vec(7, 8, 9)), false, false},
		{b, box(vec(-9, -9, -9), vec(-5, -5, -5)), box(vec(-5, -5, -5), vec(-5, -5, -5)), true, box(vec(-9, -9, -9), vec(5, 5, 5)), false, false},
		{b, box(vec(-9, -9, -9), vec(-5, -6, -5)), impl.Box{}, false, box(vec(-9, -9, -9), vec(5, 5, 5)), false, false},
		{b, box(vec(0, 5, -9), vec(0, 5, 9)), box(vec(0, 5, -5), vec(0, 5, 5)), true, box(vec(-5, -5, -9), vec(5, 5, 9)), false, false},
		{impl.Box{}, b, impl.Box{}, true, b, true, false},
		{box(vec(5, -5, 5), vec(5, -5, 5)), b, box(vec(5, -5, 5), vec(5, -5, 5)), true, b, true, false},
		{box(vec(5, -5, 6), vec(5, -5, 6)), b, impl.Box{}, false, box(vec(-5, -5, -5), vec(5, 5, 6)), false, false},
		{b, box(vec(-5, -5, -4), vec(5, 5, 5)), box(vec(-5, -5, -4), vec(5, 5, 5)), true, b, false, true},
		{cube(800), b, b, true, cube(800), false, true},
		{box(vec(-800, -800, -800), vec(-1, 0, 0)), box(vec(0, 0, 0), vec(800, 800, 800)), impl.Box{}, false, cube(800), false, false},
	}
	for _, c := range cases {
		if both, ok := impl.BoxBoth(c.a, c.b); both != c.both || ok != c.ok {
			t.Errorf("BoxBoth(%v, %v) = %v, %v", c.a, c.b, both, ok)
		}
		if both, ok := impl.BoxBoth(c.b, c.a); both != c.both || ok != c.ok {
			t.Errorf("BoxBoth(%v, %v) = %v, %v", c.b, c.a, both, ok)
		}
		if x, y := impl.BoxJoin(c.a, c.b), impl.BoxJoin(c.b, c.a); x != c.joined || y != c.joined {
			t.Errorf("BoxJoin of %v and %v = %v, %v", c.a, c.b, x, y)
		}
		if x, y := impl.BoxIn(c.a, c.b), impl.BoxIn(c.b, c.a); x != c.aInB || y != c.otherB {
			t.Errorf("BoxIn of %v and %v = %v, %v", c.a, c.b, x, y)
		}
	}
}

func TestTwoBoxesOfWhichOneIsNone(t *testing.T) {
	for _, none := range noBoxes() {
		for _, b := range append(someBoxes(), none) {
			for _, pair := range [][2]impl.Box{{none, b}, {b, none}} {
				if got, ok := impl.BoxBoth(pair[0], pair[1]); ok || got != (impl.Box{}) {
					t.Errorf("BoxBoth(%v, %v) = %v, %v", pair[0], pair[1], got, ok)
				}
				if got := impl.BoxJoin(pair[0], pair[1]); got != (impl.Box{}) {
					t.Errorf("BoxJoin(%v, %v) = %v", pair[0], pair[1], got)
				}
				if impl.BoxIn(pair[0], pair[1]) {
					t.Errorf("BoxIn(%v, %v) = true", pair[0], pair[1])
				}
			}
		}
	}
}

func TestBoxMovedByItsPlaces(t *testing.T) {
	list := append(boxesWithin(0, 1), box(vec(1, 2, 3), vec(2, 4, 6)), box(vec(-3, 0, -1), vec(2, 0, 1)))
	for _, m := range someMotions() {
		for _, b := range list {
			moved := impl.BoxMoved(m, b)
			if impl.BoxCells(moved) != impl.BoxCells(b) {
				t.Fatalf("BoxMoved(%v, %v) = %v", m, b, moved)
			}
			for _, v := range placesOf(b) {
				if !impl.BoxHas(moved, plus(tableOf(m).of(v), m.Move)) {
					t.Fatalf("BoxMoved(%v, %v) = %v, without %v", m, b, moved, v)
				}
			}
		}
	}
}

func TestBoxMovedByHand(t *testing.T) {
	straight := [3]int{0, 1, 2}
	swap := motion([3]int{1, 0, 2}, [3]bool{true, false, false}, vec(10, 20, 30))
	right := motion(straight, [3]bool{}, vec(1, 0, 0))
	down := motion(straight, [3]bool{}, vec(0, -400, 0))
	cases := []struct {
		m       impl.Motion
		b, want impl.Box
	}{
		{swap, box(vec(1, 2, 3), vec(4, 6, 8)), box(vec(4, 21, 33), vec(8, 24, 38))},
		{swap, impl.Box{}, box(vec(10, 20, 30), vec(10, 20, 30))},
		{motion(straight, [3]bool{true, true, true}, vec(0, 0, 0)), cube(800), cube(800)},
		{motion(straight, [3]bool{true, true, true}, vec(0, 0, 0)), box(vec(1, 2, 3), vec(4, 6, 8)), box(vec(-4, -6, -8), vec(-1, -2, -3))},
		{right, box(vec(-800, -800, -800), vec(799, 800, 800)), box(vec(-799, -800, -800), vec(800, 800, 800))},
		{right, box(vec(-800, -800, -800), vec(800, 800, 800)), impl.Box{}},
		{right, box(vec(800, 0, 0), vec(800, 0, 0)), impl.Box{}},
		{down, box(vec(0, -400, 0), vec(0, 800, 0)), box(vec(0, -800, 0), vec(0, 400, 0))},
		{down, box(vec(0, -401, 0), vec(0, 800, 0)), impl.Box{}},
		{motion([3]int{2, 0, 1}, [3]bool{false, false, true}, vec(0, 0, 400)), box(vec(0, -400, 0), vec(1, 1, 1)), box(vec(0, 0, 399), vec(1, 1, 800))},
		{motion([3]int{2, 0, 1}, [3]bool{false, false, true}, vec(0, 0, 400)), box(vec(0, -401, 0), vec(1, 1, 1)), impl.Box{}},
	}
	for _, c := range cases {
		if got := impl.BoxMoved(c.m, c.b); got != c.want {
			t.Errorf("BoxMoved(%v, %v) = %v, want %v", c.m, c.b, got, c.want)
		}
	}
}

func TestBoxMovedOfNone(t *testing.T) {
	for _, m := range noMotions() {
		for _, b := range []impl.Box{cube(5), box(vec(1, 2, 3), vec(4, 6, 8))} {
			if got := impl.BoxMoved(m, b); got != (impl.Box{}) {
				t.Errorf("BoxMoved(%v, %v) = %v", m, b, got)
			}
		}
	}
	// Moved by these, what is beyond a limit may be within it again, and turned, corners may stand the right way round.
	for _, m := range append(motionsBy(vec(-1, -1, -1)), motionsBy(vec(1, 1, 1))...) {
		for _, b := range noBoxes() {
			if got := impl.BoxMoved(m, b); got != (impl.Box{}) {
				t.Errorf("BoxMoved(%v, %v) = %v", m, b, got)
			}
		}
	}
}

func TestBallBox(t *testing.T) {
	cases := []struct {
		b    impl.Ball
		want impl.Box
	}{
		{ball(vec(0, 0, 0), 5), cube(5)},
		{ball(vec(1, -2, 3), 1), box(vec(0, -3, 2), vec(2, -1, 4))},
		{ball(vec(400, -400, 400), 200), box(vec(200, -600, 200), vec(600, -200, 600))},
		{ball(vec(-400, 400, -400), 1), box(vec(-401, 399, -401), vec(-399, 401, -399))},
	}
	for _, c := range cases {
		if got := impl.BallBox(c.b); got != c.want {
			t.Errorf("BallBox(%v) = %v, want %v", c.b, got, c.want)
		}
	}
	for _, b := range someBalls() {
		checkBallBox(t, b)
	}
	for _, none := range noBalls() {
		if got := impl.BallBox(none); got != (impl.Box{}) {
			t.Errorf("BallBox(%v) = %v, of none", none, got)
		}
	}
	small := ball(vec(-1, 0, 2), 3)
	for _, v := range smallVectors(7) {
		if impl.BallHas(small, v) && !impl.BoxHas(impl.BallBox(small), v) {
			t.Errorf("BallBox(%v) has not %v", small, v)
		}
	}
}

// checkBallBox asks whether a ball has a place on each face of its box, and none just beyond it.
func checkBallBox(t *testing.T, b impl.Ball) {
	t.Helper()
	around := impl.BallBox(b)
	if !impl.BoxOk(around) {
		t.Fatalf("BallBox(%v) = %v", b, around)
	}
	for index := range 3 {
		low, high := partOf(around.Low, index), partOf(around.High, index)
		for _, face := range []int{low, high} {
			if !impl.BallHas(b, withPart(b.At, index, face)) {
				t.Errorf("BallBox(%v) = %v is too great", b, around)
			}
		}
		for _, behind := range []int{low - 1, high + 1} {
			if impl.BallHas(b, withPart(b.At, index, behind)) {
				t.Errorf("BallBox(%v) = %v is too small", b, around)
			}
		}
	}
}

func TestBoxHalvesByHand(t *testing.T) {
	want := []impl.Half{
		half(vec(-1, 0, 0), 9), half(vec(1, 0, 0), 4), half(vec(0, -1, 0), -2),
		half(vec(0, 1, 0), 6), half(vec(0, 0, -1), 0), half(vec(0, 0, 1), 8),
	}
	b := box(vec(-9, 2, 0), vec(4, 6, 8))
	first, second := impl.BoxHalves(b), impl.BoxHalves(b)
	if !slices.Equal(first, want) {
		t.Errorf("BoxHalves(%v) = %v, want %v", b, first, want)
	}
	clear(first[:cap(first)])
	if !slices.Equal(second, want) {
		t.Error("what BoxHalves returns shares memory")
	}
	for _, none := range noBoxes() {
		if got := impl.BoxHalves(none); len(got) != 0 {
			t.Errorf("BoxHalves(%v) = %v, of none", none, got)
		}
	}
}

func TestBoxHalvesHaveThePlacesOfTheBox(t *testing.T) {
	for _, b := range boxesWithin(-1, 1) {
		for _, v := range smallVectors(2) {
			if got := allHave(impl.BoxHalves(b), v); got != impl.BoxHas(b, v) {
				t.Fatalf("BoxHalves(%v) have %v: %v", b, v, got)
			}
		}
	}
	for _, b := range someBoxes() {
		halves := impl.BoxHalves(b)
		if len(halves) != 6 {
			t.Fatalf("BoxHalves(%v) = %v", b, halves)
		}
		for _, v := range append(vectorsWithin(reach), b.Low, b.High) {
			if got := allHave(halves, v); got != impl.BoxHas(b, v) {
				t.Errorf("BoxHalves(%v) have %v: %v", b, v, got)
			}
		}
	}
}

// allHave reports whether half-spaces have a place in common.
func allHave(halves []impl.Half, v impl.Vec) bool {
	return !slices.ContainsFunc(halves, func(h impl.Half) bool { return !impl.HalfHas(h, v) })
}

// cutCase is from where to where a ray is in a box.
type cutCase struct {
	b        impl.Box
	r        impl.Ray
	from, to int
}

func checkCuts(t *testing.T, cases []cutCase) {
	t.Helper()
	for _, c := range cases {
		if from, to := impl.BoxCut(c.b, c.r); from != c.from || to != c.to {
			t.Errorf("BoxCut(%v, %v) = %d, %d, want %d, %d", c.b, c.r, from, to, c.from, c.to)
		}
	}
}

func TestBoxCutByHand(t *testing.T) {
	checkCuts(t, []cutCase{
		{cube(5), ray(vec(-10, 0, 0), vec(5, 0, 0)), 4096, 12288},
		{cube(5), ray(vec(10, 0, 0), vec(-5, 0, 0)), 4096, 12288},
		{cube(5), ray(vec(-10, 0, 0), vec(-5, 0, 0)), -12288, -4096},
		{cube(5), ray(vec(0, -7, 0), vec(0, 2, 0)), 4096, 24576},
		{cube(5), ray(vec(0, 0, 15), vec(0, 0, -10)), 4096, 8192},
		{cube(5), ray(vec(0, 0, 0), vec(1, 2, -5)), -4096, 4096},
		{cube(5), ray(vec(5, 5, 5), vec(1, 1, 1)), -40960, 0},
		{cube(5), ray(vec(5, 5, 5), vec(-1, -1, -1)), 0, 40960},
		{cube(5), ray(vec(5, 0, 0), vec(1, 0, 0)), -40960, 0},
		// X lets it in, Y lets it out.
		{box(vec(0, 0, 0), vec(10, 4, 9)), ray(vec(-2, 1, 3), vec(2, 1, 0)), 4096, 12288},
		// Both ends are rounded down, on either side of 0.
		{box(vec(1, 0, 0), vec(2, 0, 0)), ray(vec(0, 0, 0), vec(3, 0, 0)), 1365, 2730},
		{box(vec(1, 0, 0), vec(2, 0, 0)), ray(vec(0, 0, 0), vec(-3, 0, 0)), -2731, -1366},
		{box(vec(0, 0, -2), vec(0, 0, -1)), ray(vec(0, 0, 0), vec(0, 0, 7)), -1171, -586},
		{box(vec(0, 0, -2), vec(0, 0, -1)), ray(vec(0, 0, 0), vec(0, 0, -7)), 585, 1170},
		// At the limits.
		{cube(800), ray(vec(-800, -800, -800), vec(1, 0, 0)), 0, 6553600},
		{cube(800), ray(vec(800, -800, 800), vec(0, 0, 1)), -6553600, 0},
		{cube(800), ray(vec(800, 800, 800), vec(-200, -200, -200)), 0, 32768},
		{cube(800), ray(vec(0, 0, 0), vec(200, -199, 198)), -16384, 16384},
		{box(vec(799, 799, 799), vec(800, 800, 800)), ray(vec(-800, -800, -800), vec(200, 200, 200)), 32747, 32768},
		{box(vec(-800, 0, 0), vec(-799, 1, 1)), ray(vec(800, 0, 0), vec(-1, 0, 0)), 6549504, 6553600},
	})
}

func TestBoxCutBesideTheBox(t *testing.T) {
	checkCuts(t, []cutCase{
		{cube(5), ray(vec(-10, 6, 0), vec(5, 0, 0)), 0, 0},
		{cube(5), ray(vec(-10, -6, 0), vec(5, 0, 0)), 0, 0},
		{cube(5), ray(vec(-10, 0, 6), vec(5, 0, 0)), 0, 0},
		{cube(5), ray(vec(-10, 0, -6), vec(5, 0, 0)), 0, 0},
		{cube(5), ray(vec(6, -10, 0), vec(0, 5, 0)), 0, 0},
		{cube(5), ray(vec(-6, 0, -10), vec(0, 0, 5)), 0, 0},
		{cube(5), ray(vec(-10, -6, 0), vec(5, 0, 5)), 0, 0},
		{cube(5), ray(vec(-20, 0, 0), vec(1, 1, 0)), 0, 0},
		{cube(5), ray(vec(-20, 0, 0), vec(-1, 1, 0)), 0, 0},
		{cube(5), ray(vec(20, 30, 40), vec(1, -1, 1)), 0, 0},
		{box(vec(1, 2, 3), vec(4, 6, 8)), ray(vec(0, 0, 0), vec(0, 1, 1)), 0, 0},
		{box(vec(1, 2, 3), vec(4, 6, 8)), ray(vec(5, 0, 0), vec(0, 1, 1)), 0, 0},
	})
}

func TestBoxCutAlongFaces(t *testing.T) {
	flat := box(vec(3, -5, -5), vec(3, 5, 5))
	long := box(vec(-5, 1, 2), vec(5, 1, 2))
	checkCuts(t, []cutCase{
		{cube(5), ray(vec(-10, 5, 0), vec(5, 0, 0)), 4096, 12288},
		{cube(5), ray(vec(-10, -5, 0), vec(5, 0, 0)), 4096, 12288},
		{cube(5), ray(vec(-10, 0, 5), vec(5, 0, 0)), 4096, 12288},
		{cube(5), ray(vec(5, 10, -5), vec(0, -5, 0)), 4096, 12288},
		{cube(5), ray(vec(-10, -10, 5), vec(5, 5, 0)), 4096, 12288},
		{cube(5), ray(vec(0, 5, 0), vec(1, 0, 1)), -20480, 20480},
		// Flat boxes have what runs along them, and nothing of what runs across.
		{flat, ray(vec(3, -10, 0), vec(0, 5, 0)), 4096, 12288},
		{flat, ray(vec(3, -10, 5), vec(0, 5, 0)), 4096, 12288},
		{flat, ray(vec(3, -10, -5), vec(0, 5, 5)), 4096, 8192},
		{flat, ray(vec(2, -10, 0), vec(0, 5, 0)), 0, 0},
		{flat, ray(vec(4, -10, 0), vec(0, 5, 0)), 0, 0},
		{flat, ray(vec(-10, 0, 0), vec(5, 0, 0)), 0, 0},
		{flat, ray(vec(3, 0, 0), vec(-7, 1, 0)), 0, 0},
		{long, ray(vec(-10, 1, 2), vec(5, 0, 0)), 4096, 12288},
		{long, ray(vec(-10, 1, 2), vec(5, 1, 0)), 0, 0},
		{long, ray(vec(0, 1, 0), vec(0, 0, 1)), 0, 0},
	})
}

func TestBoxCutThroughEdgesAndPlaces(t *testing.T) {
	checkCuts(t, []cutCase{
		// Through one edge or one corner alone.
		{cube(5), ray(vec(-10, 0, 0), vec(1, 1, 0)), 0, 0},
		{cube(5), ray(vec(-10, 0, 0), vec(3, 3, 0)), 0, 0},
		{cube(5), ray(vec(-10, 0, 3), vec(5, 5, 0)), 0, 0},
		{cube(5), ray(vec(0, -10, 0), vec(0, 1, -1)), 0, 0},
		{cube(5), ray(vec(-10, 0, 0), vec(1, 1, 1)), 0, 0},
		{cube(5), ray(vec(5, 5, 5), vec(1, -1, 0)), 0, 0},
		// Through two of them.
		{cube(5), ray(vec(-10, -10, 0), vec(1, 1, 0)), 20480, 61440},
		{cube(5), ray(vec(-10, 10, 0), vec(1, -1, 0)), 20480, 61440},
		{cube(5), ray(vec(-10, -10, -10), vec(3, 3, 3)), 6826, 20480},
		{cube(5), ray(vec(-5, 5, -5), vec(1, -1, 1)), 0, 40960},
		// Along one edge.
		{cube(5), ray(vec(-10, 5, -5), vec(5, 0, 0)), 4096, 12288},
		{cube(5), ray(vec(5, 5, 0), vec(0, 0, 1)), -20480, 20480},
		// On one edge, and nearly so: between two parts, over one of them, and over a few.
		{cube(5), ray(vec(-205, -194, 0), vec(200, 199, 0)), 0, 0},
		{cube(5), ray(vec(-206, -195, 0), vec(200, 199, 0)), 0, 0},
		{cube(5), ray(vec(-7, 3, 0), vec(200, 199, 0)), 40, 41},
		{cube(5), ray(vec(-205, -195, 0), vec(200, 199, 0)), 4096, 4116},
		// Boxes of one place.
		{impl.Box{}, ray(vec(0, 0, 0), vec(1, 0, 0)), 0, 0},
		{impl.Box{}, ray(vec(-3, 0, 0), vec(1, 0, 0)), 0, 0},
		{box(vec(3, 3, 3), vec(3, 3, 3)), ray(vec(-7, -7, -7), vec(1, 1, 1)), 0, 0},
		{box(vec(3, 3, 3), vec(3, 3, 3)), ray(vec(3, 3, 9), vec(0, 0, -7)), 0, 0},
		{box(vec(800, 800, 800), vec(800, 800, 800)), ray(vec(-800, -800, -800), vec(1, 1, 1)), 0, 0},
		// Boxes that touch: one ends where the other begins.
		{box(vec(-5, -5, -5), vec(2, 5, 5)), ray(vec(-10, 0, 0), vec(7, 1, 0)), 2925, 7021},
		{box(vec(2, -5, -5), vec(5, 5, 5)), ray(vec(-10, 0, 0), vec(7, 1, 0)), 7021, 8777},
	})
}

func TestBoxCutOfInvalid(t *testing.T) {
	for _, none := range noRays() {
		for _, b := range []impl.Box{cube(5), cube(reach), box(vec(-11, 2, 6), vec(-9, 4, 8))} {
			if from, to := impl.BoxCut(b, none); from != 0 || to != 0 {
				t.Errorf("BoxCut(%v, %v) = %d, %d", b, none, from, to)
			}
		}
	}
	for _, none := range noBoxes() {
		for _, r := range []impl.Ray{ray(vec(-10, 0, 0), vec(5, 0, 0)), ray(vec(0, 0, 0), vec(0, 3, 2)), ray(vec(5, 5, 5), vec(-1, -1, -1)), ray(vec(0, 0, 0), vec(0, 0, -1))} {
			if from, to := impl.BoxCut(none, r); from != 0 || to != 0 {
				t.Errorf("BoxCut(%v, %v) = %d, %d", none, r, from, to)
			}
		}
	}
}

// lastPart is the last part up to which something holds, found by halves.
func lastPart(holds func(t int) bool) int {
	low, high := -impl.Far, impl.Far
	for low < high {
		if middle := low + (high-low+1)/2; holds(middle) {
			low = middle
		} else {
			high = middle - 1
		}
	}
	return low
}

// cutByPlaces finds from where to where a ray is in a box by where it is, without quotients.
func cutByPlaces(b impl.Box, r impl.Ray) (int, int) {
	for index := range 3 {
		if partOf(r.To, index) == 0 && !fromTo(partOf(r.From, index), partOf(b.Low, index), partOf(b.High, index)) {
			return 0, 0
		}
	}
	// Whether it is ahead of a face, or on it, behind t parts; never on an axis on which it stands still.
	upTo := func(index int, face int, t int) bool {
		left := (face-partOf(r.From, index))*impl.One - t*partOf(r.To, index)
		return partOf(r.To, index) > 0 && left >= 0 || partOf(r.To, index) < 0 && left <= 0
	}
	faces := func(index int) (int, int) {
		if partOf(r.To, index) < 0 {
			return partOf(b.High, index), partOf(b.Low, index)
		}
		return partOf(b.Low, index), partOf(b.High, index)
	}
	notIn := func(t int) bool {
		return slices.ContainsFunc([]int{0, 1, 2}, func(index int) bool {
			first, _ := faces(index)
			return upTo(index, first, t)
		})
	}
	notOut := func(t int) bool {
		return !slices.ContainsFunc([]int{0, 1, 2}, func(index int) bool {
			_, last := faces(index)
			return partOf(r.To, index) != 0 && !upTo(index, last, t)
		})
	}
	from, to := lastPart(notIn), lastPart(notOut)
	if from >= to {
		return 0, 0
	}
	return from, to
}

func TestBoxCutAgainstPlaces(t *testing.T) {
	hits, misses := 0, 0
	for _, b := range someBoxes() {
		for _, r := range someRays() {
			from, to := impl.BoxCut(b, r)
			if x, y := cutByPlaces(b, r); from != x || to != y {
				t.Fatalf("BoxCut(%v, %v) = %d, %d, want %d, %d", b, r, from, to, x, y)
			}
			if from < to {
				hits++
			} else {
				misses++
			}
		}
	}
	if hits < 1000 || misses < 1000 {
		t.Errorf("%d rays go through boxes, %d do not", hits, misses)
	}
}

// shortRays are rays from all places near the origin in all short directions.
func shortRays() []impl.Ray {
	list := []impl.Ray{}
	for _, from := range smallVectors(2) {
		for _, to := range append(smallVectors(1), vec(2, -1, 0), vec(0, 3, 2), vec(-3, 1, -2), vec(2, 2, 1)) {
			if to != (impl.Vec{}) {
				list = append(list, ray(from, to))
			}
		}
	}
	return list
}

func TestBoxCutOfSmallBoxes(t *testing.T) {
	for _, b := range boxesWithin(-1, 1) {
		for _, r := range shortRays() {
			from, to := impl.BoxCut(b, r)
			if x, y := cutByPlaces(b, r); from != x || to != y {
				t.Fatalf("BoxCut(%v, %v) = %d, %d, want %d, %d", b, r, from, to, x, y)
			}
		}
	}
}

// cutInBoth are the parts that two cuts have in common, 0 and 0 if there are none.
func cutInBoth(from int, to int, otherFrom int, otherTo int) (int, int) {
	from, to = max(from, otherFrom), min(to, otherTo)
	if from >= to {
		return 0, 0
	}
	return from, to
}

func TestBoxesAreCutAsTheirHalves(t *testing.T) {
	for _, b := range someBoxes() {
		halves := impl.BoxHalves(b)
		for _, r := range someRays() {
			from, to := -impl.Far, impl.Far
			for _, h := range halves {
				x, y := impl.HalfCut(h, r)
				from, to = cutInBoth(from, to, x, y)
			}
			if x, y := impl.BoxCut(b, r); x != from || y != to {
				t.Fatalf("%v is cut by %v from %d to %d, its halves from %d to %d", b, r, x, y, from, to)
			}
		}
	}
}

// checkCutIn holds a cut against that of a box which has what is cut.
func checkCutIn(t *testing.T, b impl.Box, r impl.Ray, from int, to int) {
	t.Helper()
	if from >= to {
		return
	}
	if x, y := impl.BoxCut(b, r); x > from || y < to {
		t.Fatalf("%v is cut by %v from %d to %d, and what is in it from %d to %d", b, r, x, y, from, to)
	}
}

func TestRaysThatMeetBallsAreInTheirBoxes(t *testing.T) {
	for _, b := range someBalls() {
		around := impl.BallBox(b)
		for _, r := range someRays() {
			from, to := impl.BallCut(b, r)
			checkCutIn(t, around, r, from, to)
		}
	}
}

func TestRaysThatMeetBoxesAreInBoxesAroundThem(t *testing.T) {
	rays := slices.DeleteFunc(someRays(), func(r impl.Ray) bool { return largest(r.From) == reach-1 })
	for _, a := range someBoxes() {
		for _, b := range someBoxes() {
			both, ok := impl.BoxBoth(a, b)
			joined := impl.BoxJoin(a, b)
			for _, r := range rays {
				from, to := impl.BoxCut(a, r)
				otherFrom, otherTo := impl.BoxCut(b, r)
				checkCutIn(t, joined, r, from, to)
				checkCutIn(t, joined, r, otherFrom, otherTo)
				if impl.BoxIn(a, b) {
					checkCutIn(t, b, r, from, to)
				}
				// What a ray has in both boxes is just what it has in the box of both.
				from, to = cutInBoth(from, to, otherFrom, otherTo)
				x, y := 0, 0
				if ok {
					x, y = impl.BoxCut(both, r)
				}
				if x != from || y != to {
					t.Fatalf("%v and %v have of %v the parts from %d to %d, and BoxBoth from %d to %d", a, b, r, from, to, x, y)
				}
			}
		}
	}
}

func TestBoxesAreCutAtTheSamePlaces(t *testing.T) {
	boxes := []impl.Box{{}, cube(1), cube(5), box(vec(3, -9, -9), vec(3, 9, 9)), box(vec(1, 2, 3), vec(4, 6, 8)), box(vec(-100, 50, -3), vec(20, 700, 4))}
	for _, move := range []impl.Vec{vec(0, 0, 0), vec(1, -2, 3), vec(-100, 100, 57)} {
		for _, m := range motionsBy(move) {
			for _, b := range boxes {
				for _, r := range append(nearRays(), shortRays()[:400]...) {
					from, to := impl.BoxCut(b, r)
					if x, y := impl.BoxCut(impl.BoxMoved(m, b), impl.RayMoved(m, r)); x != from || y != to {
						t.Fatalf("%v cuts %v from %d to %d, and moved by %v from %d to %d", b, r, from, to, m, x, y)
					}
				}
			}
		}
	}
}
