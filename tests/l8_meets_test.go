package tests

import (
	"math"
	"math/rand"
	"slices"
	"testing"

	"loop.example/wholelight/impl"
)

// ballFar is how far out directions out of balls are told.
const ballFar = 64 * impl.MaxLong

func meet(t int, leaf int, back bool, out impl.Vec, stuff int) impl.Meet {
	return impl.Meet{T: t, Leaf: leaf, Back: back, Out: out, Stuff: stuff}
}

// along is the ray of most examples: it comes to the part X of a place behind (X + 10) * 4096 by 5 parts.
func along() impl.Ray {
	return ray(vec(-10, 0, 0), vec(5, 0, 0))
}

// opposite is a vector the other way round.
func opposite(v impl.Vec) impl.Vec {
	return vec(-v.X, -v.Y, -v.Z)
}

type outCase struct {
	name string
	p    impl.Part
	r    impl.Ray
	t    int
	want impl.Vec
}

func checkOuts(t *testing.T, cases []outCase) {
	t.Helper()
	for _, c := range cases {
		if got := impl.OutOf(c.p, c.r, c.t); got != c.want {
			t.Errorf("%s: OutOf(%v, %v, %d) = %v, want %v", c.name, c.p, c.r, c.t, got, c.want)
		}
	}
}

func TestOutOfHalvesByHand(t *testing.T) {
	r := along()
	checkOuts(t, []outCase{
		{"where it is met", halfPart(vec(1, 0, 0), 0, 3), r, 8192, vec(1, 0, 0)},
		{"somewhere else", halfPart(vec(1, 0, 0), 0, 3), r, -77, vec(1, 0, 0)},
		{"turned towards the ray", halfPart(vec(-3, 0, 0), 0, 0), r, 8192, vec(-3, 0, 0)},
		{"not made shorter", halfPart(vec(20, -10, 4), 9, 0), r, 1, vec(20, -10, 4)},
		{"along the ray", halfPart(vec(0, 0, 2), -1, 0), r, 0, vec(0, 0, 2)},
		{"at the limits of parts", halfPart(vec(1, 2, 3), 4, 7), r, impl.Far, vec(1, 2, 3)},
		{"at the lower limit of parts", halfPart(vec(1, 2, 3), 4, 7), r, -impl.Far, vec(1, 2, 3)},
		{"at the limits of half-spaces", halfPart(vec(20, -20, 20), 20000, 0), ray(vec(800, -800, 800), vec(-200, 200, -200)), 5, vec(20, -20, 20)},
		{"behind the limit of balls", halfPart(vec(0, 1, 0), 0, 0), r, ballFar + 1, vec(0, 1, 0)},
	})
}

func TestOutOfBallsByHand(t *testing.T) {
	r := along()
	five := ballPart(impl.Vec{}, 5, 4)
	above := ray(vec(0, 1, 0), vec(64, 0, 0))
	checkOuts(t, []outCase{
		{"where it is met", five, r, 4096, vec(-1, 0, 0)},
		{"where it is left", five, r, 12288, vec(1, 0, 0)},
		{"in the middle", five, r, 8192, impl.Vec{}},
		{"at From", five, ray(vec(3, -6, 9), vec(1, 1, 1)), 0, vec(1, -2, 3)},
		{"aslant", five, ray(vec(-10, 3, 0), vec(5, 0, 0)), 4915, vec(-65, 48, 0)},
		{"aslant, where it is left", five, ray(vec(-10, 3, 0), vec(5, 0, 0)), 11468, vec(85, 64, 0)},
		{"around another place", ballPart(vec(7, 8, 9), 2, 0), ray(vec(7, 8, -10), vec(0, 0, 1)), 17 * 4096, vec(0, 0, -1)},
		{"around another place, aslant", ballPart(vec(7, -8, 9), 2, 0), ray(vec(9, -12, 9), vec(0, 0, 1)), 0, vec(1, -2, 0)},
		{"made shorter", ballPart(vec(1, 0, 0), 200, 0), ray(vec(-800, 7, 0), vec(1, 0, 0)), 0, vec(-160, 1, 0)},
		// The quotient of t by 64 drops what is left, so that it is nearer to 0.
		{"63 parts", five, above, 63, vec(0, 1, 0)},
		{"64 parts", five, above, 64, vec(1, 1, 0)},
		{"65 parts", five, above, 65, vec(1, 1, 0)},
		{"127 parts", five, above, 127, vec(1, 1, 0)},
		{"128 parts", five, above, 128, vec(2, 1, 0)},
		{"-63 parts", five, above, -63, vec(0, 1, 0)},
		{"-64 parts", five, above, -64, vec(-1, 1, 0)},
		{"-65 parts", five, above, -65, vec(-1, 1, 0)},
		{"-127 parts", five, above, -127, vec(-1, 1, 0)},
		{"-128 parts", five, above, -128, vec(-2, 1, 0)},
		// Far out it is the direction of the ray, up to the limit.
		{"at the limit", five, ray(vec(0, 1, 0), vec(1, 0, 0)), 67108864, vec(199, 0, 0)},
		{"one beyond it", five, ray(vec(0, 1, 0), vec(1, 0, 0)), 67108865, impl.Vec{}},
		{"at the lower limit", five, ray(vec(0, 1, 0), vec(1, 0, 0)), -67108864, vec(-199, 0, 0)},
		{"one beyond that", five, ray(vec(0, 1, 0), vec(1, 0, 0)), -67108865, impl.Vec{}},
		{"at the limit, by great steps", ballPart(vec(-400, 400, 400), 9, 0), ray(vec(800, 800, -800), vec(200, 200, -200)), 67108864, vec(199, 199, -199)},
		{"at the limit of parts", five, r, impl.Far, impl.Vec{}},
		{"at the lower limit of parts", five, r, -impl.Far, impl.Vec{}},
	})
}

func TestOutOfBoxesByHand(t *testing.T) {
	five := cubePart(5)
	flat := boxPart(vec(0, -5, -5), vec(0, 5, 5), 1)
	far := impl.Far
	checkOuts(t, []outCase{
		{"in on X", five, along(), 4096, vec(-1, 0, 0)},
		{"out on X", five, along(), 12288, vec(1, 0, 0)},
		{"within", five, along(), 8192, impl.Vec{}},
		{"just ahead", five, along(), 4095, impl.Vec{}},
		{"just behind", five, along(), 4097, impl.Vec{}},
		{"in on X, backwards", five, ray(vec(10, 0, 0), vec(-5, 0, 0)), 4096, vec(1, 0, 0)},
		{"out on X, backwards", five, ray(vec(10, 0, 0), vec(-5, 0, 0)), 12288, vec(-1, 0, 0)},
		{"in on Y", five, ray(vec(0, -10, 0), vec(0, 5, 0)), 4096, vec(0, -1, 0)},
		{"out on Y", five, ray(vec(0, -10, 0), vec(0, 5, 0)), 12288, vec(0, 1, 0)},
		{"in on Z, backwards", five, ray(vec(0, 0, 10), vec(0, 0, -5)), 4096, vec(0, 0, 1)},
		{"out on Z, backwards", five, ray(vec(0, 0, 10), vec(0, 0, -5)), 12288, vec(0, 0, -1)},
		{"behind From", five, ray(vec(0, 0, 0), vec(0, 5, 0)), -4096, vec(0, -1, 0)},
		// Edges: the first axis counts, be it in or out.
		{"in over an edge of X and Y", five, ray(vec(-10, -10, 0), vec(1, 1, 0)), 5 * 4096, vec(-1, 0, 0)},
		{"in over an edge of Y and Z", five, ray(vec(0, 10, -10), vec(0, -1, 1)), 5 * 4096, vec(0, 1, 0)},
		{"in over an edge of X and Z", five, ray(vec(10, 0, -10), vec(-1, 0, 1)), 5 * 4096, vec(1, 0, 0)},
		{"in over a corner", five, ray(vec(-10, 10, 10), vec(1, -1, -1)), 5 * 4096, vec(-1, 0, 0)},
		{"out over a corner", five, ray(vec(-10, 10, 10), vec(1, -1, -1)), 15 * 4096, vec(1, 0, 0)},
		{"out on Y, in on Z", five, ray(vec(0, -5, -15), vec(0, 1, 1)), 10 * 4096, vec(0, 1, 0)},
		{"in on Y, out on Z", five, ray(vec(0, -15, -5), vec(0, 1, 1)), 10 * 4096, vec(0, -1, 0)},
		{"out on X, in on Y", five, ray(vec(5, 15, 0), vec(-1, -1, 0)), 10 * 4096, vec(-1, 0, 0)},
		{"in the same part on X and Y, Y nearer", five, ray(vec(-10, -10, 0), vec(199, 200, 0)), 102, vec(-1, 0, 0)},
		{"out on Y a part ahead of X", five, ray(vec(-10, -10, 0), vec(199, 200, 0)), 307, vec(0, 1, 0)},
		{"out on X a part behind Y", five, ray(vec(-10, -10, 0), vec(199, 200, 0)), 308, vec(1, 0, 0)},
		// Each axis is asked by itself, wherever the ray is on the others.
		{"in on X beside the box", five, ray(vec(-10, 99, -99), vec(5, 0, 0)), 4096, vec(-1, 0, 0)},
		{"out on Z beyond X", five, ray(vec(0, 0, 0), vec(100, 0, 1)), 5 * 4096, vec(0, 0, 1)},
		// What is in and out is in.
		{"in and out", flat, ray(vec(-1, 0, 0), vec(1, 0, 0)), 4096, vec(-1, 0, 0)},
		{"in and out, backwards", flat, ray(vec(1, 0, 0), vec(-1, 0, 0)), 4096, vec(1, 0, 0)},
		{"in and out on Z", boxPart(vec(0, 0, 3), vec(9, 9, 3), 0), ray(vec(0, 0, 0), vec(0, 0, 2)), 6144, vec(0, 0, -1)},
		// Axes on which To is 0.
		{"at From, within on X and Y", five, ray(vec(0, 0, 0), vec(0, 0, 1)), 0, impl.Vec{}},
		{"at From, beside on X", five, ray(vec(9, 0, 0), vec(0, 0, 1)), 0, impl.Vec{}},
		{"at the limit", five, ray(vec(0, 0, 0), vec(0, 0, 1)), far, impl.Vec{}},
		{"at the lower limit", five, ray(vec(0, 0, 0), vec(0, 0, 1)), -far, impl.Vec{}},
		{"on a face along it", five, ray(vec(5, 0, -5), vec(0, 0, 1)), 0, vec(0, 0, -1)},
		// Quotients are rounded down, also below 0.
		{"rounded down", five, ray(vec(-10, 0, 0), vec(7, 0, 0)), 2925, vec(-1, 0, 0)},
		{"rounded down below 0", five, ray(vec(0, 0, 0), vec(7, 0, 0)), -2926, vec(-1, 0, 0)},
		{"not rounded up", five, ray(vec(0, 0, 0), vec(7, 0, 0)), -2925, impl.Vec{}},
		{"at the limits of boxes", cubePart(400), ray(vec(-800, 0, 0), vec(1, 0, 0)), 1200 * 4096, vec(1, 0, 0)},
	})
}

// quotientBy64 drops what is left, so that it is nearer to 0.
func quotientBy64(t int) int {
	if t < 0 {
		return -(-t >> 6)
	}
	return t >> 6
}

// outwards reckons OutOf from the chapter's words; faces of boxes are those of their half-spaces.
func outwards(p impl.Part, r impl.Ray, t int) impl.Vec {
	switch p.Kind {
	case impl.PartHalf:
		return p.Half.Out
	case impl.PartBall:
		q, at := quotientBy64(t), p.Ball.At
		part := func(from int, to int, at int) int { return to*q + (from-at)*64 }
		return shortened(vec(part(r.From.X, r.To.X, at.X), part(r.From.Y, r.To.Y, at.Y), part(r.From.Z, r.To.Z, at.Z)))
	}
	halves := impl.BoxHalves(p.Box)
	for index := range 3 {
		step := partOf(r.To, index)
		if step == 0 {
			continue
		}
		// One of both half-spaces is come into, the other one is gone out of.
		low, high := halves[2*index], halves[2*index+1]
		from, to := impl.HalfCut(low, r)
		otherFrom, otherTo := impl.HalfCut(high, r)
		entered, left := low.Out, high.Out
		if step < 0 {
			entered, left = high.Out, low.Out
		}
		switch t {
		case max(from, otherFrom):
			return entered
		case min(to, otherTo):
			return left
		}
	}
	return impl.Vec{}
}

// someLeaves are leaves of each kind, near and far, small and great.
func someLeaves() []impl.Part {
	list := []impl.Part{
		halfPart(vec(1, 0, 0), 0, 1), halfPart(vec(-3, 7, 20), 55, 2), halfPart(vec(0, -20, 0), -20000, 0),
		ballPart(impl.Vec{}, 5, 0), ballPart(impl.Vec{}, 1, 0), ballPart(vec(3, -4, 5), 9, 3), ballPart(vec(-400, 400, -400), 200, 7),
		cubePart(5), cubePart(0), cubePart(400), boxPart(vec(-3, 0, 2), vec(4, 0, 9), 4), boxPart(vec(5, 5, 5), vec(8, 7, 6), 5), boxPart(vec(-400, -400, -400), vec(-399, 400, 0), 6),
	}
	return list
}

// partsToAsk are parts of a ray where it meets a leaf, next to them, and at limits.
func partsToAsk(p impl.Part, r impl.Ray) []int {
	list := []int{0, 1, -1, 63, -63, 64, -64, 4096, -4096, ballFar, -ballFar}
	for _, h := range impl.BoxHalves(p.Box) {
		from, to := impl.HalfCut(h, r)
		list = append(list, from, to)
	}
	for _, s := range impl.SolidCut(solid(p), r) {
		list = append(list, s.From, s.To)
	}
	for _, t := range slices.Clone(list) {
		list = append(list, t-1, t+1)
	}
	return list
}

func TestOutOfAgainstNumbers(t *testing.T) {
	outs := map[impl.Vec]int{}
	for _, p := range someLeaves() {
		most := impl.Far
		if p.Kind == impl.PartBall {
			most = ballFar
		}
		for _, r := range append(someRays()[:400], nearRays()...) {
			for _, at := range partsToAsk(p, r) {
				want := impl.Vec{}
				if fromTo(at, -most, most) {
					want = outwards(p, r, at)
				}
				got := impl.OutOf(p, r, at)
				if got != want {
					t.Fatalf("OutOf(%v, %v, %d) = %v, want %v", p, r, at, got, want)
				}
				outs[got]++
			}
		}
	}
	for _, v := range []impl.Vec{{}, vec(1, 0, 0), vec(-1, 0, 0), vec(0, 1, 0), vec(0, -1, 0), vec(0, 0, 1), vec(0, 0, -1)} {
		if outs[v] < 20 {
			t.Errorf("only %d times %v", outs[v], v)
		}
	}
}

func TestOutOfInvalid(t *testing.T) {
	r := along()
	check := func(p impl.Part, r impl.Ray, at int) {
		t.Helper()
		if got := impl.OutOf(p, r, at); got != (impl.Vec{}) {
			t.Errorf("OutOf(%v, %v, %d) = %v", p, r, at, got)
		}
	}
	leaves := solid(halfPart(vec(1, 0, 0), 0, 3), ballPart(impl.Vec{}, 5, 3), cubePart(5))
	for _, leaf := range leaves {
		if impl.OutOf(leaf, r, 4096) == (impl.Vec{}) {
			t.Fatalf("OutOf(%v) is zero", leaf)
		}
		for _, fault := range leafFaults() {
			p := leaf
			fault(&p)
			check(p, r, 4096)
		}
		for _, none := range noRays() {
			check(leaf, none, 4096)
			check(leaf, none, 0)
		}
		for _, at := range beyond(impl.Far) {
			check(leaf, r, at)
		}
		// What is made of others is no leaf, whatever else it has.
		for _, kind := range []int{either, both, less, impl.PartMoved, 7, 8, -1, math.MaxInt, math.MinInt} {
			p := leaf
			p.Kind = kind
			check(p, r, 4096)
			check(impl.Part{Kind: kind}, r, 4096)
		}
	}
	for _, list := range noSolids() {
		if len(list) == 1 {
			for _, at := range []int{0, 4096, 12288, -4096} {
				check(list[0], r, at)
			}
		}
	}
	for _, p := range []impl.Part{madePart(either, 0, 1), madePart(both, -1, -2), madePart(less, 1, 0), movedPart(straight(0, 0, 0), 0)} {
		check(p, r, 4096)
	}
}

type meetCase struct {
	name string
	list []impl.Part
	r    impl.Ray
	from int
	want []impl.Meet
}

// checkMeets holds all meets, and the first one, against those that are told.
func checkMeets(t *testing.T, cases []meetCase) {
	t.Helper()
	for _, c := range cases {
		if got := impl.AllMeets(c.list, c.r, c.from); !slices.Equal(got, c.want) {
			t.Errorf("%s: AllMeets = %v, want %v", c.name, got, c.want)
		}
		first := impl.Meet{}
		if len(c.want) > 0 {
			first = c.want[0]
		}
		if got, ok := impl.FirstMeet(c.list, c.r, c.from); ok != (len(c.want) > 0) || got != first {
			t.Errorf("%s: FirstMeet = %v, %v, want %v", c.name, got, ok, first)
		}
	}
}

func TestMeetsByHand(t *testing.T) {
	r, left := along(), vec(-1, 0, 0)
	ball, half := ballPart(impl.Vec{}, 5, 1), halfPart(vec(1, 0, 0), 0, 2)
	whole := solid(halfPart(vec(0, 1, 0), 0, 6), ball, madePart(less, 0, 1))
	five, seven, inner := cubePart(5), ballPart(impl.Vec{}, 7, 3), boxPart(vec(-1, -1, -1), vec(1, 1, 1), 4)
	checkMeets(t, []meetCase{
		{"ball", solid(ball), r, 0, []impl.Meet{meet(4096, 0, false, left, 1), meet(12288, 0, false, left, 1)}},
		{"ball aslant", solid(ball), ray(vec(-10, 3, 0), vec(5, 0, 0)), 0, []impl.Meet{meet(4915, 0, false, vec(-65, 48, 0), 1), meet(11468, 0, false, vec(-85, -64, 0), 1)}},
		{"ball that is touched", solid(ball), ray(vec(-10, 5, 0), vec(5, 0, 0)), 0, nil},
		{"ball beside the ray", solid(ball), ray(vec(-10, 6, 0), vec(5, 0, 0)), 0, nil},
		{"box", solid(five), r, 0, []impl.Meet{meet(4096, 0, false, left, 0), meet(12288, 0, false, left, 0)}},
		{"box that is touched", solid(cubePart(0)), r, 0, nil},
		{"ball less half-space", solid(ball, half, madePart(less, 0, 1)), r, 0, []impl.Meet{meet(8192, 1, true, left, 2), meet(12288, 0, false, left, 1)}},
		{"half-space less ball", solid(ball, half, madePart(less, 1, 0)), r, 0, []impl.Meet{meet(4096, 0, true, left, 1)}},
		{"ball and half-space", solid(ball, half, madePart(both, 0, 1)), r, 0, []impl.Meet{meet(4096, 0, false, left, 1), meet(8192, 1, false, left, 2)}},
		// What is within another one is not met.
		{"either", solid(five, seven, madePart(either, 0, 1)), r, 0, []impl.Meet{meet(2457, 1, false, left, 3), meet(13926, 1, false, left, 3)}},
		{"the same twice", solid(five, five, madePart(either, 0, 1)), r, 0, []impl.Meet{meet(4096, 0, false, left, 0), meet(12288, 0, false, left, 0)}},
		{"the same twice, less", solid(five, five, madePart(less, 0, 1)), r, 0, nil},
		// Ends at -Far and Far are not met.
		{"half-space", solid(half), r, 0, []impl.Meet{meet(8192, 0, false, left, 2)}},
		{"half-space, from -Far", solid(half), r, -impl.Far, []impl.Meet{meet(8192, 0, false, left, 2)}},
		{"half-space the other way", solid(halfPart(vec(-2, 0, 0), 0, 2)), r, -impl.Far, []impl.Meet{meet(8192, 0, false, vec(-2, 0, 0), 2)}},
		{"half-space aslant", solid(halfPart(vec(3, -5, 7), -30, 2)), r, 0, nil},
		{"half-space aslant, behind From", solid(halfPart(vec(3, -5, 7), -60, 2)), r, -impl.Far, []impl.Meet{meet(-8192, 0, false, vec(-3, 5, -7), 2)}},
		{"half-space along the ray", solid(halfPart(vec(0, 1, 0), 0, 2)), r, -impl.Far, nil},
		{"half-space beside the ray", solid(halfPart(vec(0, 1, 0), -1, 2)), r, -impl.Far, nil},
		{"two half-spaces that are all", solid(half, halfPart(vec(-1, 0, 0), 0, 2), madePart(either, 0, 1)), r, -impl.Far, nil},
		{"all less a ball", whole, r, -impl.Far, []impl.Meet{meet(4096, 1, true, left, 1), meet(12288, 1, true, left, 1)}},
		// Taken away twice it is not met from its back.
		{"taken from what is taken", solid(seven, five, inner, madePart(less, 1, 2), madePart(less, 0, 3)), r, 0, []impl.Meet{
			meet(2457, 0, false, left, 3), meet(4096, 1, true, left, 0), meet(7372, 2, false, left, 4),
			meet(9011, 2, false, left, 4), meet(12288, 1, true, left, 0), meet(13926, 0, false, left, 3),
		}},
		{"moved", solid(ball, movedPart(straight(10, 0, 0), 0)), r, 0, []impl.Meet{meet(12288, 0, false, left, 1), meet(20480, 0, false, left, 1)}},
		{"moved away", solid(ball, movedPart(straight(0, 10, 0), 0)), r, 0, nil},
		// Turned by the motion, what was in front is on the left.
		{"half-space turned", solid(halfPart(vec(2, -3, 4), 0, 5), movedPart(swap(impl.Vec{}), 0)), r, 0, []impl.Meet{meet(8192, 0, false, vec(-3, -2, -4), 5)}},
		{"moved in what is taken", solid(seven, inner, movedPart(straight(3, 0, 0), 1), madePart(less, 0, 2), movedPart(straight(-1, 0, 0), 3)), r, 0, []impl.Meet{
			meet(1638, 0, false, left, 3), meet(9011, 1, true, left, 4), meet(10649, 1, true, left, 4), meet(13107, 0, false, left, 3),
		}},
	})
}

func TestMeetsOfRaysThatBeginWithin(t *testing.T) {
	ball, five := solid(ballPart(impl.Vec{}, 5, 1)), solid(cubePart(5))
	hollow := solid(ballPart(impl.Vec{}, 5, 1), boxPart(vec(-2, -2, -2), vec(2, 2, 2), 2), madePart(less, 0, 1))
	middle, face := ray(impl.Vec{}, vec(5, 0, 0)), ray(vec(-5, 0, 0), vec(5, 0, 0))
	left := vec(-1, 0, 0)
	checkMeets(t, []meetCase{
		{"from the middle", ball, middle, 0, []impl.Meet{meet(4096, 0, false, left, 1)}},
		{"from the middle, box", five, middle, 0, []impl.Meet{meet(4096, 0, false, left, 0)}},
		{"from within, downwards", five, ray(vec(1, 2, 3), vec(0, -7, 0)), 0, []impl.Meet{meet(4096, 0, false, vec(0, 1, 0), 0)}},
		{"from the hollow", hollow, middle, 0, []impl.Meet{meet(1638, 1, true, left, 2), meet(4096, 0, false, left, 1)}},
		{"from the hollow, all", hollow, middle, -impl.Far, []impl.Meet{meet(-4096, 0, false, left, 1), meet(-1639, 1, true, left, 2), meet(1638, 1, true, left, 2), meet(4096, 0, false, left, 1)}},
		{"all behind From", ball, ray(vec(10, 0, 0), vec(5, 0, 0)), 0, nil},
		{"from a face", ball, face, 0, []impl.Meet{meet(8192, 0, false, left, 1)}},
		{"from a face, a part ahead", ball, face, -1, []impl.Meet{meet(0, 0, false, left, 1), meet(8192, 0, false, left, 1)}},
		{"from the other face", five, ray(vec(5, 0, 0), vec(5, 0, 0)), 0, nil},
		{"from the other face, a part ahead", five, ray(vec(5, 0, 0), vec(5, 0, 0)), -1, []impl.Meet{meet(0, 0, false, left, 0)}},
		{"within a half-space", solid(halfPart(vec(-1, 0, 0), 5, 0)), middle, 0, nil},
		{"within a half-space, all", solid(halfPart(vec(-1, 0, 0), 5, 0)), middle, -impl.Far, []impl.Meet{meet(-4096, 0, false, left, 0)}},
	})
}

func TestMeetsBehindAPart(t *testing.T) {
	list, r, left := solid(ballPart(impl.Vec{}, 5, 1)), along(), vec(-1, 0, 0)
	in, out := meet(4096, 0, false, left, 1), meet(12288, 0, false, left, 1)
	checkMeets(t, []meetCase{
		{"from -Far", list, r, -impl.Far, []impl.Meet{in, out}},
		{"just ahead of the first", list, r, 4095, []impl.Meet{in, out}},
		{"at the first", list, r, 4096, []impl.Meet{out}},
		{"just behind the first", list, r, 4097, []impl.Meet{out}},
		{"just ahead of the other", list, r, 12287, []impl.Meet{out}},
		{"at the other", list, r, 12288, nil},
		{"far behind", list, r, impl.Far - 1, nil},
		{"at Far", list, r, impl.Far, nil},
	})
}

func TestMeetsAtEdgesOfBoxes(t *testing.T) {
	five := solid(cubePart(5))
	at := func(name string, r impl.Ray, in int, first impl.Vec, out int, other impl.Vec) meetCase {
		return meetCase{name, five, r, 0, []impl.Meet{meet(in, 0, false, first, 0), meet(out, 0, false, other, 0)}}
	}
	x, y, up := vec(-1, 0, 0), vec(0, -1, 0), vec(0, 1, 0)
	checkMeets(t, []meetCase{
		at("over edges of X and Y", ray(vec(-10, -10, 0), vec(1, 1, 0)), 20480, x, 61440, x),
		at("over edges of Y and Z", ray(vec(0, -10, -10), vec(0, 1, 1)), 20480, y, 61440, y),
		at("over edges of Y and Z, down", ray(vec(0, 10, -10), vec(0, -1, 1)), 20480, up, 61440, up),
		at("over corners", ray(vec(-10, -10, 10), vec(1, 1, -1)), 20480, x, 61440, x),
		at("in over an edge, out on X", ray(vec(-10, -10, 0), vec(200, 199, 0)), 102, x, 307, x),
		at("in over an edge, out on Y", ray(vec(-10, -10, 0), vec(199, 200, 0)), 102, x, 307, y),
		at("along a face", ray(vec(5, -10, 0), vec(0, 1, 0)), 20480, y, 61440, y),
		at("along an edge", ray(vec(5, -10, -5), vec(0, 1, 0)), 20480, y, 61440, y),
		{"beside a face", five, ray(vec(6, -10, 0), vec(0, 1, 0)), 0, nil},
		{"over one edge only", five, ray(vec(-10, 0, 0), vec(1, 1, 0)), 0, nil},
		{"along a flat box", solid(boxPart(vec(-5, 0, 0), vec(5, 0, 0), 2)), along(), 0, []impl.Meet{meet(4096, 0, false, x, 2), meet(12288, 0, false, x, 2)}},
		{"across a flat box", solid(boxPart(vec(0, -5, -5), vec(0, 5, 5), 2)), along(), 0, nil},
	})
}

func TestMeetsOfSmallBalls(t *testing.T) {
	// Steps of 64 parts may lead from one side of a ball to the other one, beside its middle, or into it.
	small := solid(ballPart(impl.Vec{}, 1, 0))
	left := vec(-1, 0, 0)
	checkMeets(t, []meetCase{
		{"by great steps", small, ray(vec(-10, 0, 0), vec(200, 0, 0)), 0, []impl.Meet{meet(184, 0, false, left, 0), meet(225, 0, false, left, 0)}},
		{"along the surface", solid(ballPart(impl.Vec{}, 3, 0)), ray(vec(-6, 1, 0), vec(192, 0, 0)), 0, []impl.Meet{meet(67, 0, false, vec(-3, 1, 0), 0), meet(188, 0, false, vec(0, 1, 0), 0)}},
		{"out of the middle", small, ray(vec(-3, 0, 0), vec(192, 0, 0)), 0, []impl.Meet{meet(42, 0, false, left, 0), meet(85, 0, false, impl.Vec{}, 0)}},
	})
}

func TestMeetsOfManyParts(t *testing.T) {
	r := ray(vec(-10, 0, 0), vec(1, 0, 0))
	want := []impl.Meet{}
	for i := range 12 {
		// The first ball has the index 0, and the others stand at 1, 3 and so on.
		leaf := max(2*i-1, 0)
		for _, at := range []int{10*i + 7, 10*i + 13} {
			want = append(want, meet(at*4096, leaf, false, vec(-1, 0, 0), i%8))
		}
	}
	checkMeets(t, []meetCase{
		{"row", row(12), r, 0, want}, {"row from within", row(12), r, want[10].T, want[11:]},
		{"chain", longChain(24), r, 0, impl.AllMeets(solid(impl.SolidLeaves(longChain(24))...), r, 0)},
	})
	if got := impl.AllMeets(longChain(24), r, 0); len(got) != 2 {
		t.Errorf("AllMeets of a chain = %v", got)
	}
}

func TestBlockedByHand(t *testing.T) {
	far := impl.Far
	r := along()
	ball, half := ballPart(impl.Vec{}, 5, 1), halfPart(vec(1, 0, 0), 0, 2)
	taken := solid(ball, half, madePart(less, 0, 1))
	two := solid(cubePart(5), cubePart(2), madePart(less, 0, 1))
	whole := solid(half, halfPart(vec(-1, 0, 0), 0, 2), madePart(either, 0, 1))
	cases := []struct {
		name     string
		list     []impl.Part
		from, to int
		want     bool
	}{
		{"all of it", solid(ball), 4096, 12288, true},
		{"more than it", solid(ball), -far, far, true},
		{"within it", solid(ball), 8000, 8001, true},
		{"up to it", solid(ball), 0, 4096, false},
		{"a part more", solid(ball), 0, 4097, true},
		{"its first part", solid(ball), 4096, 4097, true},
		{"its last part", solid(ball), 12287, 12288, true},
		{"behind it", solid(ball), 12288, far, false},
		{"behind From", solid(ball), -far, 0, false},
		{"no parts", solid(ball), 8000, 8000, false},
		{"the wrong way round", solid(ball), 12288, 4096, false},
		{"the wrong way round, from end to end", solid(ball), far, -far, false},
		{"what is taken away", taken, 0, 8192, false},
		{"behind what is taken away", taken, 0, 8193, true},
		{"between two spans", two, 6553, 9830, false},
		{"between two spans, and a part ahead", two, 6552, 9830, true},
		{"between two spans, and a part behind", two, 6553, 9831, true},
		{"in both spans", two, 6000, 10000, true},
		{"the first part of all", solid(half), -far, 1 - far, true},
		{"the last part of a half-space", solid(half), 8191, far, true},
		{"behind a half-space", solid(half), 8192, far, false},
		{"the last part of all", solid(halfPart(vec(-1, 0, 0), 0, 0)), far - 1, far, true},
		{"no parts at Far", whole, far, far, false},
		{"no parts at -Far", whole, -far, -far, false},
		{"all", whole, -far, far, true},
		{"one of all", whole, 8191, 8192, true},
		{"nothing", solid(cubePart(5), cubePart(5), madePart(less, 0, 1)), -far, far, false},
		{"a box that is touched", solid(cubePart(0)), -far, far, false},
	}
	for _, c := range cases {
		if got := impl.Blocked(c.list, r, c.from, c.to); got != c.want {
			t.Errorf("%s: Blocked(%v, %v, %d, %d) = %v", c.name, c.list, r, c.from, c.to, got)
		}
	}
}

// meetsNothing asks what returns nothing and false, whatever is behind from.
func meetsNothing(t *testing.T, list []impl.Part, r impl.Ray, from int, to int) {
	t.Helper()
	if got, ok := impl.FirstMeet(list, r, from); ok || got != (impl.Meet{}) {
		t.Errorf("FirstMeet(%v, %v, %d) = %v, %v", list, r, from, got, ok)
	}
	if got := impl.AllMeets(list, r, from); len(got) != 0 {
		t.Errorf("AllMeets(%v, %v, %d) = %v", list, r, from, got)
	}
	if impl.Blocked(list, r, from, to) {
		t.Errorf("Blocked(%v, %v, %d, %d) = true", list, r, from, to)
	}
}

func TestMeetsOfInvalid(t *testing.T) {
	far := impl.Far
	lists := [][]impl.Part{one(), solid(cubePart(400)), solid(halfPart(vec(1, 0, 0), 20000, 0)), row(12), solid(halfPart(vec(0, 1, 0), 9, 0), cubePart(3), madePart(less, 0, 1))}
	for _, none := range noSolids() {
		kept := slices.Clone(none)
		meetsNothing(t, none, along(), 0, far)
		meetsNothing(t, none, along(), -far, far)
		if !slices.Equal(none, kept) {
			t.Errorf("%v has become %v", kept, none)
		}
	}
	for _, list := range lists {
		if !impl.Blocked(list, along(), -far, far) {
			t.Fatalf("%v is not met", list)
		}
		for _, none := range noRays() {
			meetsNothing(t, list, none, 0, far)
			meetsNothing(t, list, none, -far, far)
		}
		for _, from := range beyond(far) {
			meetsNothing(t, list, along(), from, far)
		}
		for _, to := range beyond(far) {
			if impl.Blocked(list, along(), -far, to) || impl.Blocked(list, along(), to, to) {
				t.Errorf("Blocked(%v) up to %d = true", list, to)
			}
		}
	}
}

// everyMeet tells all meets of a ray with a solid, by the way through its leaves.
func everyMeet(list []impl.Part, r impl.Ray) []impl.Meet {
	leaves := impl.SolidLeaves(list)
	ahead := func(index int) int {
		many := 0
		for _, p := range list[:index] {
			if p.Kind <= impl.PartBox {
				many++
			}
		}
		return many
	}
	meets := []impl.Meet{}
	for _, s := range wayOf(list, r).spans() {
		for _, end := range [][2]int{{s.From, s.In}, {s.To, s.Out}} {
			at, index := end[0], max(end[1], -end[1])-1
			if at == -impl.Far || at == impl.Far {
				continue
			}
			out := outwards(leaves[ahead(index)], r, at)
			if bigDot(out, r.To).Sign() > 0 {
				out = opposite(out)
			}
			meets = append(meets, meet(at, index, end[1] < 0, out, list[index].Stuff))
		}
	}
	return meets
}

// raysAround are rays by chance: from around and within solids by chance, to all sides, by small and great steps.
func raysAround(source *rand.Rand, many int) []impl.Ray {
	list := []impl.Ray{}
	near := func(most int) impl.Vec {
		return vec(source.Intn(2*most+1)-most, source.Intn(2*most+1)-most, source.Intn(2*most+1)-most)
	}
	for len(list) < many {
		from, at := near(15), near(8)
		to := vec(at.X-from.X, at.Y-from.Y, at.Z-from.Z)
		switch len(list) % 4 {
		case 0:
			to = withPart(withPart(impl.Vec{}, source.Intn(3), 200), source.Intn(3), source.Intn(3)-1)
		case 1:
			to = vec(to.X*5, to.Y*5, to.Z*5)
		case 2:
			to = near(1)
		}
		if r := ray(from, to); impl.RayOk(r) {
			list = append(list, r)
		}
	}
	return list
}

func TestMeetsAreTheEndsOfSpans(t *testing.T) {
	source := rand.New(rand.NewSource(8))
	fronts, backs, nothing := 0, 0, 0
	for round := range 1500 {
		list := someSolid(source, 1+round%impl.MaxParts, smallMotions())
		kept := slices.Clone(list)
		for _, r := range append(raysAround(source, 8), nearRays()[round%10]) {
			want := everyMeet(list, r)
			froms := []int{-impl.Far, 0, source.Intn(20000) - 10000}
			for _, m := range want {
				froms = append(froms, m.T-1, m.T)
				if m.Back {
					backs++
				} else {
					fronts++
				}
			}
			if len(want) == 0 {
				nothing++
			}
			for _, from := range froms {
				checkBehind(t, list, r, from, want)
			}
		}
		if !slices.Equal(list, kept) {
			t.Fatalf("%v has become %v", kept, list)
		}
	}
	if fronts < 2000 || backs < 200 || nothing < 1000 {
		t.Errorf("%d meets in front, %d from behind, %d rays that meet nothing", fronts, backs, nothing)
	}
}

// checkBehind holds what a ray meets behind a part against all its meets.
func checkBehind(t *testing.T, list []impl.Part, r impl.Ray, from int, all []impl.Meet) {
	t.Helper()
	behind := slices.DeleteFunc(slices.Clone(all), func(m impl.Meet) bool { return m.T <= from })
	got := impl.AllMeets(list, r, from)
	if !slices.Equal(got, behind) {
		t.Fatalf("AllMeets(%v, %v, %d) = %v, want %v", list, r, from, got, behind)
	}
	first, ok := impl.FirstMeet(list, r, from)
	if ok != (len(behind) > 0) || ok && first != behind[0] || !ok && first != (impl.Meet{}) {
		t.Fatalf("FirstMeet(%v, %v, %d) = %v, %v, want the first of %v", list, r, from, first, ok, behind)
	}
	for _, m := range got {
		if bigDot(m.Out, r.To).Sign() > 0 {
			t.Fatalf("%v is met by %v at %v, with its back to it", list, r, m)
		}
	}
}

func TestFirstIsTheFirstOfAllParts(t *testing.T) {
	source := rand.New(rand.NewSource(88))
	const end = 3000
	met, missed := 0, 0
	for round := range 400 {
		list := someSolid(source, 1+round%impl.MaxParts, smallMotions())
		last := len(list) - 1
		for _, r := range raysAround(source, 4)[:2] {
			w := wayOf(list, r)
			from := source.Intn(2000) - 1000
			// One comes in, or goes out, at the first part that is not as the one ahead of it.
			at := from + 1
			for at < end && w.has(last, at) == w.has(last, at-1) {
				at++
			}
			first, ok := impl.FirstMeet(list, r, from)
			if at < end && (!ok || first.T != at) || at == end && ok && first.T < end {
				t.Fatalf("FirstMeet(%v, %v, %d) = %v, %v, want one at %d", list, r, from, first, ok, at)
			}
			if at < end {
				met++
			} else {
				missed++
			}
			// Ahead of it all parts are blocked, or none.
			if got := impl.Blocked(list, r, from, at); got != w.has(last, from) {
				t.Fatalf("Blocked(%v, %v, %d, %d) = %v", list, r, from, at, got)
			}
		}
	}
	if met < 100 || missed < 100 {
		t.Errorf("%d meet something, %d do not", met, missed)
	}
}

// blockedTally counts how often a ray was blocked, and how often not.
type blockedTally struct{ blocked, free int }

// check holds what is told of from where to where a ray is blocked against the spans, in order or not, where it is.
func (n *blockedTally) check(t *testing.T, source *rand.Rand, spans []impl.Span, blocked func(from int, to int) bool) {
	t.Helper()
	ends := []int{-impl.Far, impl.Far, 0, source.Intn(9000)}
	for _, s := range spans {
		for _, at := range []int{s.From, s.To} {
			ends = append(ends, max(at-1, -impl.Far), at, min(at+1, impl.Far))
		}
	}
	for range 30 {
		from, to := ends[source.Intn(len(ends))], ends[source.Intn(len(ends))]
		want := slices.ContainsFunc(spans, func(s impl.Span) bool { return max(s.From, from) < min(s.To, to) })
		if got := blocked(from, to); got != want {
			t.Fatalf("blocked from %d to %d: %v, with %v", from, to, got, spans)
		}
		if want {
			n.blocked++
		} else {
			n.free++
		}
	}
}

// checkOften wants many cases of both.
func (n *blockedTally) checkOften(t *testing.T) {
	t.Helper()
	if n.blocked < 5000 || n.free < 5000 {
		t.Errorf("%d are blocked, %d are not", n.blocked, n.free)
	}
}

func TestBlockedAgainstParts(t *testing.T) {
	source := rand.New(rand.NewSource(888))
	tally := blockedTally{}
	for round := range 600 {
		list := someSolid(source, 1+round%impl.MaxParts, smallMotions())
		for _, r := range raysAround(source, 4) {
			tally.check(t, source, wayOf(list, r).spans(), func(from int, to int) bool { return impl.Blocked(list, r, from, to) })
		}
	}
	tally.checkOften(t)
}

func TestMovedSolidsAreMetAtTheSamePlaces(t *testing.T) {
	source := rand.New(rand.NewSource(8888))
	motions := smallMotions()
	many := 0
	for round := range 600 {
		list := someSolid(source, 1+round%(impl.MaxParts-1), motions)
		m := motions[round%len(motions)]
		moved := impl.SolidMoved(m, list)
		for _, r := range raysAround(source, 4) {
			x, y := impl.AllMeets(list, r, 0), impl.AllMeets(moved, impl.RayMoved(m, r), 0)
			for i := range x {
				x[i].Out = tableOf(m).of(x[i].Out)
				// Of a box at an edge another axis may be the first one behind a turn.
				if i < len(y) && list[x[i].Leaf].Kind == impl.PartBox {
					x[i].Out = y[i].Out
				}
				many++
			}
			if !slices.Equal(x, y) {
				t.Fatalf("%v is met by %v at %v, and moved by %v at %v", list, r, x, m, y)
			}
		}
	}
	if many < 500 {
		t.Errorf("only %d meets", many)
	}
}

func TestMeetsAreNewMemory(t *testing.T) {
	r := along()
	for _, list := range [][]impl.Part{one(), solid(cubePart(5)), row(5)} {
		// The list has room behind it, where other parts stand.
		room := append(slices.Clone(list), row(8)...)
		before := slices.Clone(room)
		first, second := impl.AllMeets(room[:len(list)], r, 0), impl.AllMeets(room[:len(list)], r, 0)
		again := slices.Clone(second)
		clear(first[:cap(first)])
		if len(again) == 0 || !slices.Equal(room, before) || !slices.Equal(second, again) {
			t.Errorf("what AllMeets returns of %v shares memory", list)
		}
		impl.FirstMeet(room[:len(list)], r, 0)
		impl.Blocked(room[:len(list)], r, 0, impl.Far)
		if !slices.Equal(room, before) {
			t.Errorf("%v has become %v", before, room)
		}
	}
}
