package tests

import (
	"math"
	"math/rand"
	"slices"
	"testing"

	"loop.example/wholelight/impl"
)

func halfPart(out impl.Vec, at int, stuff int) impl.Part {
	return impl.Part{Kind: impl.PartHalf, Half: half(out, at), Stuff: stuff}
}

func ballPart(at impl.Vec, round int, stuff int) impl.Part {
	return impl.Part{Kind: impl.PartBall, Ball: ball(at, round), Stuff: stuff}
}

func boxPart(low impl.Vec, high impl.Vec, stuff int) impl.Part {
	return impl.Part{Kind: impl.PartBox, Box: box(low, high), Stuff: stuff}
}

func cubePart(most int) impl.Part {
	return impl.Part{Kind: impl.PartBox, Box: cube(most)}
}

func madePart(kind int, a int, b int) impl.Part {
	return impl.Part{Kind: kind, A: a, B: b}
}

func movedPart(m impl.Motion, a int) impl.Part {
	return impl.Part{Kind: impl.PartMoved, Move: m, A: a}
}

// straight is the motion that moves, and turns nothing.
func straight(x int, y int, z int) impl.Motion {
	return motion([3]int{0, 1, 2}, [3]bool{}, vec(x, y, z))
}

// swap is the motion of the example of chapter 3, with a move.
func swap(move impl.Vec) impl.Motion {
	return motion([3]int{1, 0, 2}, [3]bool{true, false, false}, move)
}

func solid(parts ...impl.Part) []impl.Part {
	return parts
}

const (
	either = impl.PartEither
	both   = impl.PartBoth
	less   = impl.PartLess
)

// one is a solid with a part of each kind, the leaves 0, 1, 3 and 6 among them.
func one() []impl.Part {
	return solid(
		ballPart(vec(1, 2, 3), 5, 7), halfPart(vec(1, 0, -2), 4, 0), madePart(less, 0, 1),
		boxPart(vec(-4, -5, -6), vec(6, 5, 4), 3), movedPart(swap(vec(3, 0, -1)), 3), madePart(either, 2, 4),
		ballPart(vec(0, 0, 0), 8, 1), madePart(both, 5, 6),
	)
}

// changed is the solid one with a change of the part with an index.
func changed(index int, change func(p *impl.Part)) []impl.Part {
	list := one()
	change(&list[index])
	return list
}

// chain is a ball with so many motions around it, the first of them the innermost one.
func chain(at impl.Vec, motions ...impl.Motion) []impl.Part {
	list := solid(ballPart(at, 5, 0))
	for i, m := range motions {
		list = append(list, movedPart(m, i))
	}
	return list
}

// longChain is a ball in a list of so many parts.
func longChain(many int) []impl.Part {
	return chain(vec(1, 2, 3), slices.Repeat([]impl.Motion{swap(vec(1, 0, 0))}, many-1)...)
}

// row is so many balls side by side, in a list of twice as many parts, less one.
func row(many int) []impl.Part {
	list := solid(ballPart(impl.Vec{}, 3, 0))
	for i := 1; i < many; i++ {
		list = append(list, ballPart(vec(10*i, 0, 0), 3, i%8), madePart(either, len(list)-1, len(list)))
	}
	return list
}

// leafFaults are changes by which a leaf is none, whatever its kind.
func leafFaults() []func(p *impl.Part) {
	return []func(p *impl.Part){
		func(p *impl.Part) { p.Stuff = -1 }, func(p *impl.Part) { p.Stuff = impl.MaxStuff + 1 },
		func(p *impl.Part) { p.Stuff = math.MaxInt }, func(p *impl.Part) { p.Stuff = math.MinInt },
		func(p *impl.Part) { p.A = 1 }, func(p *impl.Part) { p.A = -1 }, func(p *impl.Part) { p.B = 1 }, func(p *impl.Part) { p.B = -1 },
		func(p *impl.Part) { p.Move = straight(0, 0, 0) }, func(p *impl.Part) { p.Move.Back[1] = true }, func(p *impl.Part) { p.Move.Move.Z = 1 },
	}
}

// madeFaults are changes by which a part that is made of others is none, whatever its kind.
func madeFaults() []func(p *impl.Part) {
	faults := []func(p *impl.Part){
		func(p *impl.Part) { p.Stuff = 1 }, func(p *impl.Part) { p.Stuff = -1 },
		func(p *impl.Part) { p.Half = half(vec(1, 0, 0), 0) }, func(p *impl.Part) { p.Half.At = 1 },
		func(p *impl.Part) { p.Ball.Round = 1 }, func(p *impl.Part) { p.Ball.At.X = 1 },
		func(p *impl.Part) { p.Box.Low.Y = -1 }, func(p *impl.Part) { p.Box.High.Z = 1 },
	}
	for _, n := range []int{-1, -2, 8, 9, 24, 25, 1000, math.MaxInt, math.MinInt} {
		faults = append(faults, func(p *impl.Part) { p.A = n }, func(p *impl.Part) { p.B = n })
	}
	return faults
}

// noParts are solids with a part that is none, each by one fault.
func noParts() [][]impl.Part {
	lists := [][]impl.Part{}
	add := func(index int, faults ...func(p *impl.Part)) {
		for _, fault := range faults {
			lists = append(lists, changed(index, fault))
		}
	}
	for index, p := range one() {
		for _, kind := range []int{-1, 7, 8, 256, math.MaxInt, math.MinInt} {
			add(index, func(p *impl.Part) { p.Kind = kind })
		}
		switch p.Kind {
		case impl.PartHalf, impl.PartBall, impl.PartBox:
			add(index, leafFaults()...)
		case impl.PartMoved:
			add(index, func(p *impl.Part) { p.B = 1 }, func(p *impl.Part) { p.B = 2 })
			add(index, madeFaults()...)
		default:
			add(index, func(p *impl.Part) { p.Move = straight(0, 0, 0) }, func(p *impl.Part) { p.Move.Back[0] = true })
			add(index, madeFaults()...)
		}
	}
	// Leaves with what another kind has.
	for _, index := range []int{0, 6} {
		add(index, func(p *impl.Part) { p.Half.At = 3 }, func(p *impl.Part) { p.Half.Out.X = 1 }, func(p *impl.Part) { p.Box = cube(5) }, func(p *impl.Part) { p.Kind = impl.PartBox }, func(p *impl.Part) { p.Kind = impl.PartHalf })
	}
	add(1, func(p *impl.Part) { p.Ball.Round = 3 }, func(p *impl.Part) { p.Ball.At.X = 1 }, func(p *impl.Part) { p.Box.High.X = 1 }, func(p *impl.Part) { p.Kind = impl.PartBall }, func(p *impl.Part) { p.Kind = impl.PartBox })
	add(3, func(p *impl.Part) { p.Half.At = 3 }, func(p *impl.Part) { p.Half.Out.X = 1 }, func(p *impl.Part) { p.Ball.Round = 5 }, func(p *impl.Part) { p.Kind = impl.PartBall }, func(p *impl.Part) { p.Kind = impl.PartHalf })
	return append(lists, noLeaves()...)
}

// noLeaves are solids of one leaf that is none, alone and moved.
func noLeaves() [][]impl.Part {
	leaves := []impl.Part{{}, {Stuff: 1}, {Kind: impl.PartBall}}
	for _, kind := range []int{-1, 7, 8, math.MaxInt, math.MinInt} {
		leaves = append(leaves, impl.Part{Kind: kind}, impl.Part{Kind: kind, Half: half(vec(1, 0, 0), 4)}, impl.Part{Kind: kind, Ball: ball(impl.Vec{}, 5)}, impl.Part{Kind: kind, Box: cube(5), Stuff: 1})
	}
	for _, h := range noHalves() {
		leaves = append(leaves, impl.Part{Kind: impl.PartHalf, Half: h})
	}
	for _, b := range noBalls() {
		leaves = append(leaves, impl.Part{Kind: impl.PartBall, Ball: b})
	}
	for _, b := range noBoxes() {
		leaves = append(leaves, impl.Part{Kind: impl.PartBox, Box: b})
	}
	for index := range 3 {
		for _, n := range []int{401, 500, 799, 800} {
			leaves = append(leaves, impl.Part{Kind: impl.PartBox, Box: box(vec(-5, -5, -5), withPart(vec(5, 5, 5), index, n))})
			leaves = append(leaves, impl.Part{Kind: impl.PartBox, Box: box(withPart(vec(-5, -5, -5), index, -n), vec(5, 5, 5))})
			leaves = append(leaves, impl.Part{Kind: impl.PartBox, Box: box(withPart(vec(0, 0, 0), index, n), withPart(vec(0, 0, 0), index, n))})
		}
	}
	lists := [][]impl.Part{}
	for _, leaf := range leaves {
		lists = append(lists, solid(leaf), solid(cubePart(9), leaf, madePart(either, 0, 1)))
		// These motions may bring back what is beyond a limit.
		for _, move := range []impl.Motion{straight(0, 0, 0), straight(-1, -1, -1), straight(1, 1, 1), straight(-400, -400, -400), motion([3]int{0, 1, 2}, [3]bool{true, true, true}, impl.Vec{})} {
			lists = append(lists, solid(leaf, movedPart(move, 0)))
		}
	}
	return lists
}

// noTrees are lists of parts of which one is used by none, or twice, or is not ahead of what it is used by, and lists that are too long or empty.
func noTrees() [][]impl.Part {
	a, b, c := ballPart(impl.Vec{}, 5, 0), cubePart(4), halfPart(vec(0, 1, 0), 2, 2)
	still := straight(0, 0, 0)
	return [][]impl.Part{
		nil, {}, longChain(impl.MaxParts + 1), longChain(2 * impl.MaxParts), row(13), row(500),
		// Used by none.
		solid(a, b), solid(a, a, a), solid(a, b, movedPart(still, 0)), solid(a, b, movedPart(still, 1)),
		solid(a, b, c, madePart(either, 0, 1)), solid(a, b, c, madePart(either, 1, 2)), solid(a, b, madePart(both, 0, 1), c),
		solid(a, movedPart(still, 0), b), append(one(), a), append(solid(a), a),
		// Used twice.
		solid(a, madePart(either, 0, 0)), solid(a, madePart(both, 0, 0)), solid(a, madePart(less, 0, 0)),
		solid(a, b, madePart(either, 1, 1)), solid(a, b, madePart(either, 0, 1), madePart(less, 2, 2)),
		solid(a, movedPart(still, 0), madePart(either, 0, 1)), solid(a, movedPart(still, 0), madePart(less, 1, 0)),
		solid(a, movedPart(still, 0), movedPart(still, 0), madePart(both, 1, 2)),
		solid(a, b, c, madePart(either, 0, 1), madePart(less, 3, 2), madePart(both, 4, 2)),
		// Not ahead.
		solid(a, movedPart(still, 1)), solid(movedPart(still, 0)), solid(movedPart(still, 1), a), solid(movedPart(still, -1)), solid(madePart(either, 0, 0)),
		solid(a, madePart(either, 0, 1)), solid(a, madePart(either, 1, 0)), solid(a, b, madePart(either, 0, 2)), solid(a, b, madePart(either, 3, 1)),
		solid(a, madePart(less, 0, 2), b, madePart(either, 1, 2)), solid(a, movedPart(still, 2), movedPart(still, 1)), solid(a, movedPart(still, -1)),
		solid(a, b, madePart(less, -1, 1)), solid(a, b, madePart(less, 0, -1)), solid(a, b, madePart(less, math.MinInt, math.MaxInt)),
	}
}

// tooFar are parts whose leaves or motions lead too far out, by themselves or together.
func tooFar() [][]impl.Part {
	lists := [][]impl.Part{
		chain(vec(1, 0, 0), straight(400, 0, 0)), chain(vec(0, -200, 0), straight(0, -201, 0)), chain(vec(0, 0, 300), straight(0, 0, 300)),
		// Each motion is one, but not together, wherever the ball stands.
		chain(vec(0, 0, 0), straight(300, 0, 0), straight(300, 0, 0)), chain(vec(-400, 0, 0), straight(1, 0, 0), straight(400, 0, 0)),
		chain(vec(-400, 0, 0), straight(400, 0, 0), straight(1, 0, 0)), chain(vec(0, 0, -300), straight(0, 0, 201), straight(0, 0, 200)),
		// The outer two together, although the inner one brings it back.
		chain(vec(0, 0, 0), straight(-300, 0, 0), straight(300, 0, 0), straight(300, 0, 0)), chain(vec(0, 5, 0), straight(0, 400, 0), straight(0, -1, 0), straight(0, -400, 0)),
		// The outer one turns what is inside.
		chain(vec(0, 0, 0), straight(0, -300, 0), swap(vec(300, 0, 0))), chain(vec(0, -400, 0), swap(vec(1, 0, 0))),
		solid(cubePart(400), movedPart(straight(0, 0, 1), 0)), solid(cubePart(1), movedPart(straight(0, 400, 0), 0)), solid(cubePart(1), movedPart(straight(0, -400, 0), 0)),
		solid(halfPart(vec(20, 20, 20), 0, 0), movedPart(straight(334, 333, 334), 0)), solid(halfPart(vec(0, 1, 0), 20000, 0), movedPart(straight(0, 1, 0), 0)),
		solid(halfPart(vec(-1, 0, 0), -20000, 0), movedPart(straight(1, 0, 0), 0)), solid(halfPart(vec(20, 0, 0), 15000, 0), movedPart(straight(251, 0, 0), 0)),
		// What is far out is only a part of it, also where it takes nothing away.
		solid(cubePart(5), ballPart(vec(400, 0, 0), 5, 0), movedPart(straight(1, 0, 0), 1), madePart(less, 0, 2)),
		solid(ballPart(vec(400, 0, 0), 5, 0), cubePart(5), madePart(either, 0, 1), movedPart(straight(1, 0, 0), 2)),
		solid(cubePart(5), ballPart(vec(0, 400, 0), 5, 0), madePart(either, 0, 1), movedPart(straight(0, 1, 0), 2)),
	}
	for _, m := range noMotions() {
		lists = append(lists, chain(vec(1, 2, 3), m), solid(cubePart(0), movedPart(m, 0)))
	}
	for _, m := range noMotions()[:9] {
		lists = append(lists, chain(vec(0, 0, 0), m, straight(1, 0, 0)), chain(vec(0, 0, 0), straight(1, 0, 0), m), chain(vec(0, 0, 0), m, m))
	}
	return lists
}

// noSolids are lists of parts that are no solid, each by one fault.
func noSolids() [][]impl.Part {
	return slices.Concat(noParts(), noTrees(), tooFar())
}

func TestLimitsOfSolids(t *testing.T) {
	if impl.MaxParts != 24 || impl.MaxStuff != 7 {
		t.Errorf("MaxParts %d, MaxStuff %d", impl.MaxParts, impl.MaxStuff)
	}
	kinds := []int{impl.PartHalf, impl.PartBall, impl.PartBox, impl.PartEither, impl.PartBoth, impl.PartLess, impl.PartMoved}
	if !slices.Equal(kinds, []int{0, 1, 2, 3, 4, 5, 6}) {
		t.Errorf("the kinds are %v", kinds)
	}
}

func TestSolidOk(t *testing.T) {
	far := vec(400, -400, 400)
	lists := [][]impl.Part{
		one(), longChain(1), longChain(2), longChain(23), longChain(24), row(2), row(12),
		solid(ballPart(far, 200, 0)), solid(ballPart(far, 1, 7)), solid(cubePart(400)), solid(cubePart(0)), solid(boxPart(far, far, 7)),
		solid(halfPart(vec(20, -20, 20), 20000, 7)), solid(halfPart(vec(0, 0, -1), -20000, 0)),
		// The parts that one is made of stand in any order ahead of it.
		solid(cubePart(5), ballPart(far, 5, 0), madePart(less, 1, 0)), solid(cubePart(5), ballPart(far, 5, 0), movedPart(straight(0, 0, 0), 0), madePart(both, 2, 1)),
		solid(cubePart(5), cubePart(5), madePart(both, 0, 1)), solid(cubePart(5), cubePart(6), cubePart(7), madePart(both, 2, 0), madePart(less, 1, 3)),
		// Up to the limits, and beyond them only on the way.
		chain(vec(0, 0, 0), straight(400, -400, 400)), chain(vec(-400, 0, 0), straight(400, 0, 0)), chain(vec(-400, 0, 0), swap(vec(0, 0, 400))),
		chain(vec(0, 0, 0), straight(200, 0, 0), straight(200, 0, 0)), chain(vec(0, 0, 0), straight(400, 0, 0), straight(-400, 0, 0), straight(400, 0, 0)),
		chain(vec(400, 0, 0), straight(400, 0, 0), straight(-400, 0, 0)), chain(vec(400, 0, 0), straight(-400, 0, 0), straight(400, 0, 0)),
		chain(vec(0, 0, 0), straight(0, -300, 0), swap(vec(-300, 0, 0))), chain(vec(0, -400, 0), swap(vec(0, 0, 0))),
		solid(cubePart(399), movedPart(straight(1, -1, 1), 0)), solid(boxPart(vec(-400, 0, 0), vec(0, 0, 0), 0), movedPart(straight(400, 0, 0), 0)),
		solid(halfPart(vec(20, 20, 20), 0, 0), movedPart(straight(334, 333, 333), 0)), solid(halfPart(vec(0, 1, 0), 19999, 0), movedPart(straight(0, 1, 0), 0)),
		solid(halfPart(vec(0, 1, 0), 20000, 0), movedPart(straight(1, 0, 1), 0)), solid(halfPart(vec(20, 0, 0), 15000, 0), movedPart(straight(250, 0, 0), 0)),
	}
	for stuff := range 8 {
		lists = append(lists, solid(ballPart(impl.Vec{}, 5, stuff)), solid(halfPart(vec(1, 0, 0), 5, stuff)), solid(boxPart(impl.Vec{}, impl.Vec{}, stuff)))
	}
	for _, list := range lists {
		if !impl.SolidOk(list) {
			t.Errorf("SolidOk(%v) = false", list)
		}
	}
}

func TestNoSolidHasNothing(t *testing.T) {
	r := ray(vec(-10, 0, 0), vec(5, 0, 0))
	good := solid(cubePart(5))
	for _, none := range noSolids() {
		kept := slices.Clone(none)
		if impl.SolidOk(none) {
			t.Errorf("SolidOk(%v) = true", none)
		}
		if got := impl.SolidLeaves(none); len(got) != 0 {
			t.Errorf("SolidLeaves(%v) = %v", none, got)
		}
		for _, v := range []impl.Vec{{}, vec(1, 2, 3), vec(-3, 4, 5), vec(400, 0, 0)} {
			if impl.SolidHas(none, v) {
				t.Errorf("SolidHas(%v, %v) = true", none, v)
			}
		}
		if got := impl.SolidCut(none, r); len(got) != 0 {
			t.Errorf("SolidCut(%v, %v) = %v", none, r, got)
		}
		if b, ok := impl.SolidBox(none); ok || b != (impl.Box{}) {
			t.Errorf("SolidBox(%v) = %v, %v", none, b, ok)
		}
		for _, m := range []impl.Motion{straight(0, 0, 0), straight(-300, 0, 0), straight(-1, -1, -1)} {
			if got := impl.SolidMoved(m, none); len(got) != 0 {
				t.Errorf("SolidMoved(%v, %v) = %v", m, none, got)
			}
		}
		for kind := range 8 {
			if x, y, z := impl.SolidWith(kind, none, good), impl.SolidWith(kind, good, none), impl.SolidWith(kind, none, none); len(x)+len(y)+len(z) != 0 {
				t.Errorf("SolidWith(%d) of %v = %v, %v, %v", kind, none, x, y, z)
			}
		}
		if !slices.Equal(none, kept) {
			t.Errorf("%v has become %v", kept, none)
		}
	}
}

func TestSolidLeavesByHand(t *testing.T) {
	inner := swap(vec(10, 20, 30))
	cases := []struct{ list, want []impl.Part }{
		{solid(ballPart(vec(1, 2, 3), 5, 6)), solid(ballPart(vec(1, 2, 3), 5, 6))},
		{
			one(),
			solid(ballPart(vec(1, 2, 3), 5, 7), halfPart(vec(1, 0, -2), 4, 0), boxPart(vec(-2, -4, -7), vec(8, 6, 3), 3), ballPart(vec(0, 0, 0), 8, 1)),
		},
		// The order is that of the list, whatever is made of what.
		{
			solid(cubePart(5), ballPart(vec(1, 0, 0), 2, 1), halfPart(vec(0, 1, 0), 7, 2), madePart(less, 2, 0), madePart(both, 3, 1)),
			solid(cubePart(5), ballPart(vec(1, 0, 0), 2, 1), halfPart(vec(0, 1, 0), 7, 2)),
		},
		// Each kind, by a turn and a move.
		{solid(ballPart(vec(1, 2, 3), 4, 5), movedPart(inner, 0)), solid(ballPart(vec(8, 21, 33), 4, 5))},
		{solid(boxPart(vec(1, 2, 3), vec(4, 6, 8), 5), movedPart(inner, 0)), solid(boxPart(vec(4, 21, 33), vec(8, 24, 38), 5))},
		{solid(halfPart(vec(1, 2, 3), 4, 5), movedPart(inner, 0)), solid(halfPart(vec(-2, 1, 3), 4-20+20+90, 5))},
		// The innermost motion goes first.
		{chain(vec(1, 2, 3), straight(10, 0, 0), swap(vec(0, 0, 0))), solid(ballPart(vec(-2, 11, 3), 5, 0))},
		{chain(vec(1, 2, 3), swap(vec(0, 0, 0)), straight(10, 0, 0)), solid(ballPart(vec(8, 1, 3), 5, 0))},
		{chain(vec(400, 0, 0), straight(400, 0, 0), straight(-400, 0, 0)), solid(ballPart(vec(400, 0, 0), 5, 0))},
		{chain(vec(0, 0, 0), straight(400, 0, 0), straight(-400, 0, 0), straight(400, 0, 0)), solid(ballPart(vec(400, 0, 0), 5, 0))},
		// A motion moves all that it has, and nothing else.
		{
			solid(cubePart(1), cubePart(2), madePart(less, 1, 0), movedPart(straight(0, 7, 0), 2), cubePart(3), movedPart(straight(0, 0, 9), 4), madePart(either, 3, 5), movedPart(straight(-5, 0, 0), 6), cubePart(4), madePart(both, 8, 7)),
			solid(boxPart(vec(-6, 6, -1), vec(-4, 8, 1), 0), boxPart(vec(-7, 5, -2), vec(-3, 9, 2), 0), boxPart(vec(-8, -3, 6), vec(-2, 3, 12), 0), cubePart(4)),
		},
	}
	for _, c := range cases {
		if got := impl.SolidLeaves(c.list); !slices.Equal(got, c.want) {
			t.Errorf("SolidLeaves(%v) = %v, want %v", c.list, got, c.want)
		}
	}
	if got := impl.SolidLeaves(row(12)); len(got) != 12 || got[11] != ballPart(vec(110, 0, 0), 3, 3) {
		t.Errorf("SolidLeaves of a row = %v", got)
	}
}

func TestSolidHasByHand(t *testing.T) {
	ball, cube, right := ballPart(impl.Vec{}, 5, 0), cubePart(4), halfPart(vec(1, 0, 0), 0, 0)
	all := halfPart(vec(1, 0, 0), 20000, 0)
	cases := []struct {
		list []impl.Part
		v    impl.Vec
		want bool
	}{
		{solid(ball), vec(3, 4, 0), true}, {solid(ball), vec(3, 4, 1), false},
		{solid(cube), vec(4, -4, 4), true}, {solid(cube), vec(4, -5, 4), false},
		{solid(right), vec(0, 9, 9), true}, {solid(right), vec(1, 9, 9), false},
		{solid(ball, cube, madePart(either, 0, 1)), vec(5, 0, 0), true}, {solid(ball, cube, madePart(either, 0, 1)), vec(4, 4, 4), true}, {solid(ball, cube, madePart(either, 0, 1)), vec(5, 1, 0), false},
		{solid(ball, cube, madePart(both, 0, 1)), vec(5, 0, 0), false}, {solid(ball, cube, madePart(both, 0, 1)), vec(4, 4, 4), false}, {solid(ball, cube, madePart(both, 0, 1)), vec(4, 3, 0), true},
		{solid(ball, cube, madePart(less, 0, 1)), vec(5, 0, 0), true}, {solid(ball, cube, madePart(less, 0, 1)), vec(4, 0, 0), false}, {solid(ball, cube, madePart(less, 0, 1)), vec(4, 4, 4), false},
		{solid(ball, cube, madePart(less, 1, 0)), vec(4, 4, 4), true}, {solid(ball, cube, madePart(less, 1, 0)), vec(4, 3, 0), false}, {solid(ball, cube, madePart(less, 1, 0)), vec(5, 0, 0), false},
		// The half-space has its plane, so that what it is taken from has it no more.
		{solid(ball, right, madePart(less, 0, 1)), vec(0, 0, 0), false}, {solid(ball, right, madePart(less, 0, 1)), vec(1, 0, 0), true},
		{chain(vec(0, 0, 0), straight(9, 0, 0)), vec(4, 0, 0), true}, {chain(vec(0, 0, 0), straight(9, 0, 0)), vec(3, 0, 0), false}, {chain(vec(0, 0, 0), straight(9, 0, 0)), vec(14, 0, 0), true},
		{chain(vec(0, 9, 0), swap(impl.Vec{})), vec(-9, 0, 0), true}, {chain(vec(0, 9, 0), swap(impl.Vec{})), vec(0, 9, 0), false},
		// Places up to twice as far out as parts are.
		{solid(all), vec(800, -800, 800), true}, {solid(all), vec(-800, 800, -800), true},
		{solid(all), vec(801, 0, 0), false}, {solid(all), vec(0, -801, 0), false}, {solid(all), vec(0, 0, 801), false}, {solid(all), vec(math.MinInt, 0, 0), false},
		{solid(all, ball, madePart(less, 0, 1)), vec(800, 0, 0), true}, {solid(all, ball, madePart(less, 0, 1)), vec(801, 0, 0), false}, {solid(all, ball, madePart(either, 0, 1)), vec(0, 0, math.MaxInt), false},
		{solid(halfPart(vec(0, 1, 0), 401, 0), movedPart(straight(0, 399, 0), 0)), vec(0, 800, 0), true}, {solid(halfPart(vec(0, 1, 0), 400, 0), movedPart(straight(0, 399, 0), 0)), vec(0, 800, 0), false},
	}
	for _, c := range cases {
		if got := impl.SolidHas(c.list, c.v); got != c.want {
			t.Errorf("SolidHas(%v, %v) = %v", c.list, c.v, got)
		}
	}
}

func TestSolidCutByHand(t *testing.T) {
	far := impl.Far
	r := ray(vec(-10, 0, 0), vec(5, 0, 0))
	five, seven := cubePart(5), ballPart(impl.Vec{}, 7, 0)
	left, right := boxPart(vec(-5, -5, -5), vec(0, 5, 5), 0), boxPart(vec(0, -5, -5), vec(5, 5, 5), 0)
	inner, half := cubePart(1), halfPart(vec(1, 0, 0), 0, 2)
	cases := []struct {
		name string
		list []impl.Part
		want []impl.Span
	}{
		{"box", solid(five), []impl.Span{span(4096, 12288, 1, 1)}},
		{"ball", solid(seven), []impl.Span{span(2457, 13926, 1, 1)}},
		{"half-space", solid(half), []impl.Span{span(-far, 8192, 1, 1)}},
		{"half-space the other way", solid(halfPart(vec(-1, 0, 0), 0, 0)), []impl.Span{span(8192, far, 1, 1)}},
		{"half-space along the ray", solid(halfPart(vec(0, 1, 0), 0, 0)), []impl.Span{span(-far, far, 1, 1)}},
		{"half-space beside the ray", solid(halfPart(vec(0, 1, 0), -1, 0)), nil},
		{"ball that is touched", solid(ballPart(vec(0, 7, 0), 7, 0)), nil},
		{"ball beside the ray", solid(ballPart(vec(0, 8, 0), 7, 0)), nil},
		{"box that is touched", solid(boxPart(impl.Vec{}, impl.Vec{}, 0)), nil},
		{"either", solid(five, seven, madePart(either, 0, 1)), []impl.Span{span(2457, 13926, 2, 2)}},
		{"both", solid(five, seven, madePart(both, 0, 1)), []impl.Span{span(4096, 12288, 1, 1)}},
		{"less", solid(five, seven, madePart(less, 1, 0)), []impl.Span{span(2457, 4096, 2, -1), span(12288, 13926, -1, 2)}},
		{"less all", solid(five, seven, madePart(less, 0, 1)), nil},
		{"less half", solid(seven, half, madePart(less, 0, 1)), []impl.Span{span(8192, 13926, -2, 1)}},
		{"half less", solid(seven, half, madePart(less, 1, 0)), []impl.Span{span(-far, 2457, 2, -1)}},
		{"either with half", solid(seven, half, madePart(either, 0, 1)), []impl.Span{span(-far, 13926, 2, 1)}},
		{"the same twice, either", solid(five, five, madePart(either, 0, 1)), []impl.Span{span(4096, 12288, 1, 1)}},
		{"the same twice, A behind B", solid(five, five, madePart(both, 1, 0)), []impl.Span{span(4096, 12288, 2, 2)}},
		{"the same twice, less", solid(five, five, madePart(less, 0, 1)), nil},
		{"touching, either", solid(left, right, madePart(either, 0, 1)), []impl.Span{span(4096, 12288, 1, 2)}},
		{"touching, either, A behind B", solid(left, right, madePart(either, 1, 0)), []impl.Span{span(4096, 12288, 1, 2)}},
		{"touching, both", solid(left, right, madePart(both, 0, 1)), nil},
		{"one end the same", solid(five, right, madePart(less, 0, 1)), []impl.Span{span(4096, 8192, 1, -2)}},
		{"one end the same, both", solid(five, right, madePart(both, 0, 1)), []impl.Span{span(8192, 12288, 2, 1)}},
		{"moved", solid(five, movedPart(straight(10, 0, 0), 0)), []impl.Span{span(12288, 20480, 1, 1)}},
		{"moved away", solid(five, movedPart(straight(0, 10, 0), 0)), nil},
		{"turned", solid(boxPart(vec(-1, 2, -1), vec(1, 4, 1), 0), movedPart(swap(impl.Vec{}), 0)), []impl.Span{span(4915, 6553, 1, 1)}},
		{"behind other parts", solid(seven, five, movedPart(straight(100, 0, 0), 0), madePart(either, 2, 1)), []impl.Span{span(4096, 12288, 2, 2), span(84377, 95846, 1, 1)}},
		{"taken from what is taken", solid(seven, five, inner, madePart(less, 1, 2), madePart(less, 0, 3)), []impl.Span{span(2457, 4096, 1, -2), span(7372, 9011, 3, 3), span(12288, 13926, -2, 1)}},
		{"moved in what is taken", solid(seven, inner, movedPart(straight(3, 0, 0), 1), madePart(less, 0, 2), movedPart(straight(-1, 0, 0), 3)), []impl.Span{span(1638, 9011, 1, -2), span(10649, 13107, -2, 1)}},
	}
	for _, c := range cases {
		if got := impl.SolidCut(c.list, r); !slices.Equal(got, c.want) {
			t.Errorf("%s: %v, want %v", c.name, got, c.want)
		}
	}
}

func TestSolidCutOfManyParts(t *testing.T) {
	got := impl.SolidCut(row(12), ray(vec(-10, 0, 0), vec(1, 0, 0)))
	want := []impl.Span{}
	for i := range 12 {
		// The first ball has the index 0, and the others stand at 1, 3 and so on.
		surface := max(2*i, 1)
		want = append(want, span((10*i+7)*4096, (10*i+13)*4096, surface, surface))
	}
	if !slices.Equal(got, want) {
		t.Errorf("SolidCut of a row = %v, want %v", got, want)
	}
	if got := impl.SolidCut(longChain(24), ray(vec(-10, 0, 0), vec(1, 0, 0))); len(got) != 1 || got[0].In != 1 || got[0].Out != 1 {
		t.Errorf("SolidCut of a chain = %v", got)
	}
}

func TestSolidCutByNoRay(t *testing.T) {
	for _, none := range noRays() {
		for _, list := range [][]impl.Part{one(), solid(cubePart(400)), solid(halfPart(vec(1, 0, 0), 20000, 0)), row(12)} {
			if got := impl.SolidCut(list, none); len(got) != 0 {
				t.Errorf("SolidCut(%v, %v) = %v", list, none, got)
			}
		}
	}
}

func TestSolidBoxByHand(t *testing.T) {
	five, half := cubePart(5), halfPart(vec(1, 0, 0), 0, 0)
	near, away := ballPart(vec(8, 0, 0), 4, 0), ballPart(vec(30, 0, 0), 4, 0)
	nearBox, awayBox := box(vec(4, -4, -4), vec(12, 4, 4)), box(vec(26, -4, -4), vec(34, 4, 4))
	beside := boxPart(vec(5, 5, 5), vec(6, 6, 6), 0)
	cases := []struct {
		name string
		list []impl.Part
		want impl.Box
	}{
		{"box", solid(five), cube(5)}, {"ball", solid(near), nearBox},
		{"far ball", solid(ballPart(vec(400, -400, 400), 200, 0)), box(vec(200, -600, 200), vec(600, -200, 600))},
		{"either", solid(five, near, madePart(either, 0, 1)), box(vec(-5, -5, -5), vec(12, 5, 5))},
		{"either, far apart", solid(five, away, madePart(either, 1, 0)), box(vec(-5, -5, -5), vec(34, 5, 5))},
		{"both", solid(five, near, madePart(both, 0, 1)), box(vec(4, -4, -4), vec(5, 4, 4))},
		{"both, touching", solid(five, beside, madePart(both, 0, 1)), box(vec(5, 5, 5), vec(5, 5, 5))},
		{"both, apart", solid(five, away, madePart(both, 0, 1)), cube(5)}, {"both, apart, A behind B", solid(five, away, madePart(both, 1, 0)), awayBox},
		{"both, B is a half-space", solid(near, half, madePart(both, 0, 1)), nearBox}, {"both, A is a half-space", solid(near, half, madePart(both, 1, 0)), nearBox},
		{"both, B is a half-space, without the origin", solid(away, half, madePart(both, 0, 1)), awayBox}, {"both, the origin in A", solid(five, half, madePart(both, 0, 1)), cube(5)},
		{"less", solid(five, near, madePart(less, 0, 1)), cube(5)}, {"less, A behind B", solid(five, near, madePart(less, 1, 0)), nearBox},
		{"less half", solid(five, half, madePart(less, 0, 1)), cube(5)}, {"less itself", solid(five, five, madePart(less, 0, 1)), cube(5)},
		{"moved", solid(five, movedPart(straight(1, 2, 3), 0)), box(vec(-4, -3, -2), vec(6, 7, 8))},
		{"turned", solid(near, movedPart(swap(vec(0, 0, 1)), 0)), box(vec(-4, 4, -3), vec(4, 12, 5))},
		{"moved together", solid(five, movedPart(straight(30, 0, 0), 0), away, madePart(both, 1, 2), movedPart(straight(0, 0, 9), 3)), box(vec(26, -4, 5), vec(34, 4, 13))},
		{"moved, half in it", solid(half, near, movedPart(straight(-5, 0, 0), 0), madePart(both, 2, 1)), nearBox},
		{"no half with all of two", solid(half, five, madePart(both, 0, 1), near, madePart(either, 2, 3)), box(vec(-5, -5, -5), vec(12, 5, 5))},
		{"both of three", solid(half, five, near, madePart(both, 1, 0), madePart(both, 3, 2)), box(vec(4, -4, -4), vec(5, 4, 4))},
	}
	for _, c := range cases {
		if got, ok := impl.SolidBox(c.list); !ok || got != c.want {
			t.Errorf("%s: %v, %v, want %v", c.name, got, ok, c.want)
		}
	}
}

func TestSolidsWithoutABox(t *testing.T) {
	five, half, other := cubePart(5), halfPart(vec(1, 0, 0), 0, 0), halfPart(vec(-1, 0, 0), -5, 0)
	lists := [][]impl.Part{
		solid(half), solid(halfPart(vec(20, 20, 20), -20000, 0)), solid(half, movedPart(straight(1, 2, 3), 0)),
		solid(half, five, madePart(either, 0, 1)), solid(half, five, madePart(either, 1, 0)), solid(half, other, madePart(either, 0, 1)),
		solid(half, other, madePart(both, 0, 1)), solid(half, half, madePart(both, 0, 1)),
		solid(half, five, madePart(less, 0, 1)), solid(half, other, madePart(less, 0, 1)),
		solid(half, five, madePart(either, 0, 1), other, madePart(both, 3, 2)), solid(half, five, madePart(less, 0, 1), five, madePart(either, 2, 3)),
	}
	for _, list := range lists {
		if got, ok := impl.SolidBox(list); ok || got != (impl.Box{}) || !impl.SolidOk(list) {
			t.Errorf("SolidBox(%v) = %v, %v", list, got, ok)
		}
	}
	// Six of them have the places of a box in common, and no box all the same.
	list := []impl.Part{}
	for i, h := range impl.BoxHalves(cube(5)) {
		list = append(list, impl.Part{Kind: impl.PartHalf, Half: h})
		if i > 0 {
			list = append(list, madePart(both, len(list)-2, len(list)-1))
		}
	}
	if got, ok := impl.SolidBox(list); ok || got != (impl.Box{}) || !impl.SolidHas(list, vec(5, -5, 5)) || impl.SolidHas(list, vec(6, 0, 0)) {
		t.Errorf("SolidBox(%v) = %v, %v", list, got, ok)
	}
}

func TestSolidsOfNothing(t *testing.T) {
	five, ball, away := cubePart(5), ballPart(impl.Vec{}, 8, 0), ballPart(vec(30, 0, 0), 4, 0)
	half, other := halfPart(vec(1, 0, 0), 0, 0), halfPart(vec(-1, 0, 0), -5, 0)
	lists := [][]impl.Part{
		solid(five, five, madePart(less, 0, 1)), solid(five, away, madePart(both, 0, 1)), solid(half, other, madePart(both, 0, 1)),
		solid(five, ball, away, madePart(both, 1, 2), madePart(both, 0, 3)), solid(ball, away, madePart(both, 0, 1), five, madePart(less, 2, 3)),
		solid(half, half, madePart(less, 0, 1)), solid(five, other, half, madePart(both, 1, 2), madePart(both, 0, 3)),
	}
	for _, list := range lists {
		for _, more := range [][]impl.Part{list, impl.SolidMoved(swap(vec(1, 2, 3)), list), impl.SolidWith(either, list, list), impl.SolidWith(less, list, solid(five))} {
			if !impl.SolidOk(more) {
				t.Fatalf("%v is no solid", more)
			}
			for _, v := range append(smallVectors(3), vec(5, 0, 0), vec(30, 0, 0)) {
				if impl.SolidHas(more, v) {
					t.Errorf("SolidHas(%v, %v) = true", more, v)
				}
			}
			for _, r := range nearRays() {
				if got := impl.SolidCut(more, r); len(got) != 0 {
					t.Errorf("SolidCut(%v, %v) = %v", more, r, got)
				}
			}
		}
	}
	if b, ok := impl.SolidBox(lists[3]); !ok || b != cube(5) {
		t.Errorf("SolidBox(%v) = %v, %v", lists[3], b, ok)
	}
}

func TestSolidMovedByHand(t *testing.T) {
	m := swap(vec(1, 2, 3))
	if got, want := impl.SolidMoved(m, one()), append(one(), movedPart(m, 7)); !slices.Equal(got, want) {
		t.Errorf("SolidMoved(%v, %v) = %v", m, one(), got)
	}
	cases := []struct {
		name string
		m    impl.Motion
		list []impl.Part
		ok   bool
	}{
		{"22 parts", m, longChain(22), true}, {"23 parts", m, longChain(23), true}, {"24 parts", m, longChain(24), false},
		{"a row of 23 parts", m, row(12), true},
		{"to the limit", straight(400, 0, 0), solid(cubePart(0)), true}, {"beyond it", straight(400, 0, 0), solid(cubePart(1)), false},
		{"together to the limit", straight(200, 0, 0), chain(impl.Vec{}, straight(200, 0, 0)), true},
		{"together beyond it", straight(201, 0, 0), chain(vec(-100, 0, 0), straight(200, 0, 0)), false},
		{"no solid that would be brought back", straight(-300, 0, 0), chain(vec(300, 0, 0), straight(300, 0, 0)), false},
		{"half-space to the limit", straight(0, 1, 0), solid(halfPart(vec(0, 1, 0), 19999, 0)), true},
		{"half-space beyond it", straight(0, 1, 0), solid(halfPart(vec(0, 1, 0), 20000, 0)), false},
	}
	for _, c := range cases {
		got := impl.SolidMoved(c.m, c.list)
		if c.ok && !slices.Equal(got, append(slices.Clone(c.list), movedPart(c.m, len(c.list)-1))) || !c.ok && len(got) != 0 {
			t.Errorf("%s: %v", c.name, got)
		}
	}
	for _, none := range noMotions() {
		if got := impl.SolidMoved(none, one()); len(got) != 0 {
			t.Errorf("SolidMoved(%v, %v) = %v", none, one(), got)
		}
	}
}

func TestSolidWithByHand(t *testing.T) {
	ball, cube, half := ballPart(vec(1, 2, 3), 4, 5), cubePart(6), halfPart(vec(1, 2, 3), 4, 5)
	m := swap(vec(1, 2, 3))
	a := solid(ball, movedPart(m, 0), cube, madePart(less, 1, 2))
	b := solid(half, cube, movedPart(m, 1), madePart(both, 2, 0), movedPart(m, 3))
	want := solid(
		ball, movedPart(m, 0), cube, madePart(less, 1, 2),
		half, cube, movedPart(m, 5), madePart(both, 6, 4), movedPart(m, 7),
	)
	for _, kind := range []int{either, both, less} {
		if got := impl.SolidWith(kind, a, b); !slices.Equal(got, append(slices.Clone(want), madePart(kind, 3, 8))) {
			t.Errorf("SolidWith(%d, %v, %v) = %v", kind, a, b, got)
		}
		if got := impl.SolidWith(kind, solid(cube), solid(ball)); !slices.Equal(got, solid(cube, ball, madePart(kind, 0, 1))) {
			t.Errorf("SolidWith(%d) of two leaves = %v", kind, got)
		}
		if got := impl.SolidWith(kind, solid(cube), solid(cube)); !slices.Equal(got, solid(cube, cube, madePart(kind, 0, 1))) {
			t.Errorf("SolidWith(%d) of the same leaf twice = %v", kind, got)
		}
	}
	for _, kind := range []int{impl.PartHalf, impl.PartBall, impl.PartBox, impl.PartMoved, 7, -1, math.MaxInt, math.MinInt} {
		for _, pair := range [][2][]impl.Part{{a, b}, {solid(cube), solid(ball)}, {one(), one()}} {
			if got := impl.SolidWith(kind, pair[0], pair[1]); len(got) != 0 {
				t.Errorf("SolidWith(%d) = %v", kind, got)
			}
		}
	}
}

func TestSolidWithAsManyPartsAsMayBe(t *testing.T) {
	for many := 1; many <= impl.MaxParts; many++ {
		for more := 1; more <= impl.MaxParts; more++ {
			a, b := longChain(many), longChain(more)
			got := impl.SolidWith(less, a, b)
			if ok := many+more+1 <= impl.MaxParts; ok != impl.SolidOk(got) || ok && len(got) != many+more+1 || !ok && len(got) != 0 {
				t.Errorf("SolidWith of %d parts and %d parts: %v", many, more, got)
			}
		}
	}
}

// broughtBack is the place that a motion makes another one of.
func broughtBack(m impl.Motion, v impl.Vec) impl.Vec {
	return turnedBack(m, plus(v, vec(-m.Move.X, -m.Move.Y, -m.Move.Z)))
}

// turnedBack is the direction that a motion makes another one of, by the columns of its table.
func turnedBack(m impl.Motion, v impl.Vec) impl.Vec {
	rows := tableOf(m)
	column := func(i int) int { return rows[0][i]*v.X + rows[1][i]*v.Y + rows[2][i]*v.Z }
	return vec(column(0), column(1), column(2))
}

// together tells what a part has of what it is made of.
func together(kind int, a bool, b bool) bool {
	switch kind {
	case either:
		return a || b
	case both:
		return a && b
	}
	return a && !b
}

// hasPlace tells whether a part has a place, with the place brought back in place of the leaves moved.
func hasPlace(list []impl.Part, k int, v impl.Vec) bool {
	p := list[k]
	switch p.Kind {
	case impl.PartHalf:
		return p.Half.Out.X*v.X+p.Half.Out.Y*v.Y+p.Half.Out.Z*v.Z <= p.Half.At
	case impl.PartBall:
		x, y, z := v.X-p.Ball.At.X, v.Y-p.Ball.At.Y, v.Z-p.Ball.At.Z
		return x*x+y*y+z*z <= p.Ball.Round*p.Ball.Round
	case impl.PartBox:
		low, high := p.Box.Low, p.Box.High
		return fromTo(v.X, low.X, high.X) && fromTo(v.Y, low.Y, high.Y) && fromTo(v.Z, low.Z, high.Z)
	case impl.PartMoved:
		return hasPlace(list, p.A, broughtBack(p.Move, v))
	}
	return together(p.Kind, hasPlace(list, p.A, v), hasPlace(list, p.B, v))
}

// way is a ray through a solid, with from where to where it is in each leaf, brought back in place of the leaves moved.
type way struct {
	list []impl.Part
	cuts [][2]int
}

func wayOf(list []impl.Part, r impl.Ray) way {
	w := way{list, make([][2]int, len(list))}
	w.bringBack(len(list)-1, r)
	return w
}

func (w way) bringBack(k int, r impl.Ray) {
	from, to := 0, 0
	switch p := w.list[k]; p.Kind {
	case impl.PartHalf:
		from, to = impl.HalfCut(p.Half, r)
	case impl.PartBall:
		from, to = impl.BallCut(p.Ball, r)
	case impl.PartBox:
		from, to = impl.BoxCut(p.Box, r)
	case impl.PartMoved:
		w.bringBack(p.A, ray(broughtBack(p.Move, r.From), turnedBack(p.Move, r.To)))
	default:
		w.bringBack(p.A, r)
		w.bringBack(p.B, r)
	}
	w.cuts[k] = [2]int{from, to}
}

// has tells whether a part of the solid has a part of the ray.
func (w way) has(k int, t int) bool {
	switch p := w.list[k]; p.Kind {
	case impl.PartHalf, impl.PartBall, impl.PartBox:
		return fromTo(t, w.cuts[k][0], w.cuts[k][1]-1)
	case impl.PartMoved:
		return w.has(p.A, t)
	default:
		return together(p.Kind, w.has(p.A, t), w.has(p.B, t))
	}
}

// surface tells by which surface one comes into a part of the solid, or out of it, at a part of the ray.
func (w way) surface(k int, t int, in bool) int {
	p := w.list[k]
	turns := func(k int, in bool) bool { return w.has(k, t-1) != in && w.has(k, t) == in }
	switch p.Kind {
	case impl.PartHalf, impl.PartBall, impl.PartBox:
		return k + 1
	case impl.PartMoved:
		return w.surface(p.A, t, in)
	case less:
		if !turns(p.A, in) {
			return -w.surface(p.B, t, !in)
		}
	default:
		if !turns(p.A, in) {
			return w.surface(p.B, t, in)
		}
	}
	return w.surface(p.A, t, in)
}

// spans tells what of the ray is in the last part, from one end of a leaf to the next one.
func (w way) spans() []impl.Span {
	ends := []int{}
	for _, cut := range w.cuts {
		ends = append(ends, cut[0], cut[1])
	}
	slices.Sort(ends)
	last := len(w.list) - 1
	list := []impl.Span{}
	for _, t := range slices.Compact(ends) {
		switch ahead, here := w.has(last, t-1), w.has(last, t); {
		case here && !ahead:
			list = append(list, impl.Span{From: t, In: w.surface(last, t, true)})
		case ahead && !here:
			list[len(list)-1].To, list[len(list)-1].Out = t, w.surface(last, t, false)
		}
	}
	return list
}

// someLeaf is a leaf by chance.
func someLeaf(source *rand.Rand) impl.Part {
	near := func(most int) impl.Vec {
		return vec(source.Intn(2*most+1)-most, source.Intn(2*most+1)-most, source.Intn(2*most+1)-most)
	}
	stuff := source.Intn(8)
	switch source.Intn(4) {
	case 0:
		if out := near(3); out != (impl.Vec{}) {
			return halfPart(out, source.Intn(41)-20, stuff)
		}
		return halfPart(vec(0, -2, 0), 3, stuff)
	case 1:
		low := near(8)
		return boxPart(low, plus(low, vec(source.Intn(14), source.Intn(14), source.Intn(14))), stuff)
	}
	return ballPart(near(8), 1+source.Intn(12), stuff)
}

// someSolid is a solid of so many parts by chance, in which what is made of what stands in any order.
func someSolid(source *rand.Rand, many int, motions []impl.Motion) []impl.Part {
	list := []impl.Part{}
	loose := []int{}
	take := func() int {
		i := source.Intn(len(loose))
		k := loose[i]
		loose = slices.Delete(loose, i, i+1)
		return k
	}
	for len(list) < many {
		left := many - len(list)
		choice := source.Intn(5)
		switch {
		case len(loose) == 0 || choice < 2 && left > len(loose)+1:
			list = append(list, someLeaf(source))
		case len(loose) > 1 && (choice < 4 || left <= len(loose)-1):
			list = append(list, madePart(either+source.Intn(3), take(), take()))
		default:
			list = append(list, movedPart(motions[source.Intn(len(motions))], take()))
		}
		loose = append(loose, len(list)-1)
	}
	return list
}

// smallMotions are turns with moves so short that even many of them together are one.
func smallMotions() []impl.Motion {
	return slices.Concat(motionsBy(vec(0, 0, 0)), motionsBy(vec(3, -1, 2)), motionsBy(vec(-8, 12, 0)))
}

func TestSolidsHaveThePlacesOfTheirLeaves(t *testing.T) {
	source := rand.New(rand.NewSource(7))
	has, hasNot, boxes := 0, 0, 0
	for round := range 1500 {
		list := someSolid(source, 1+round%impl.MaxParts, smallMotions())
		if !impl.SolidOk(list) {
			t.Fatalf("%v is no solid", list)
		}
		around, ok := impl.SolidBox(list)
		if ok {
			boxes++
		}
		for range 60 {
			v := vec(source.Intn(41)-20, source.Intn(41)-20, source.Intn(41)-20)
			want := hasPlace(list, len(list)-1, v)
			if got := impl.SolidHas(list, v); got != want {
				t.Fatalf("SolidHas(%v, %v) = %v", list, v, got)
			}
			if want && ok && !impl.BoxHas(around, v) {
				t.Fatalf("SolidBox(%v) = %v, without %v", list, around, v)
			}
			if want {
				has++
			} else {
				hasNot++
			}
		}
	}
	if has < 5000 || hasNot < 5000 || boxes < 500 || boxes > 1300 {
		t.Errorf("%d places in solids, %d not, %d boxes", has, hasNot, boxes)
	}
}

func TestRaysAreInSolidsWhereTheirLeavesSaySo(t *testing.T) {
	source := rand.New(rand.NewSource(77))
	many := [3]int{}
	for round := range 1500 {
		list := someSolid(source, 1+round%impl.MaxParts, smallMotions())
		kept := slices.Clone(list)
		around, ok := impl.SolidBox(list)
		for _, r := range append(nearRays(), ray(vec(0, 2, -30), vec(source.Intn(9)-4, source.Intn(5)-2, 9)), ray(vec(-30, source.Intn(9), 1), vec(17, source.Intn(9)-4, source.Intn(5)-2))) {
			if largest(r.From) > 200 {
				continue
			}
			got := impl.SolidCut(list, r)
			if want := wayOf(list, r).spans(); !slices.Equal(got, want) || !impl.SpansOk(got) {
				t.Fatalf("SolidCut(%v, %v) = %v, want %v", list, r, got, want)
			}
			for _, s := range got {
				if from, to := impl.BoxCut(around, r); ok && (s.From < from || s.To > to) {
					t.Fatalf("%v is in %v from %d to %d, and in its box %v from %d to %d", r, list, s.From, s.To, around, from, to)
				}
			}
			many[min(len(got), 2)]++
		}
		if !slices.Equal(list, kept) {
			t.Fatalf("%v has become %v", kept, list)
		}
	}
	if slices.Min(many[:]) < 200 {
		t.Errorf("so many rays have no span, one, and more: %v", many)
	}
}

func TestMovedSolidsAreCutAtTheSamePlaces(t *testing.T) {
	source := rand.New(rand.NewSource(777))
	motions := smallMotions()
	for round := range 400 {
		list := someSolid(source, 1+round%(impl.MaxParts-1), motions)
		m := motions[round%len(motions)]
		moved := impl.SolidMoved(m, list)
		if !slices.Equal(moved, append(slices.Clone(list), movedPart(m, len(list)-1))) {
			t.Fatalf("SolidMoved(%v, %v) = %v", m, list, moved)
		}
		for _, r := range nearRays()[:6] {
			if x, y := impl.SolidCut(list, r), impl.SolidCut(moved, impl.RayMoved(m, r)); !slices.Equal(x, y) {
				t.Fatalf("%v cuts %v to %v, and moved by %v to %v", r, list, x, m, y)
			}
		}
		for _, v := range smallVectors(2) {
			if impl.SolidHas(list, v) != impl.SolidHas(moved, plus(tableOf(m).of(v), m.Move)) {
				t.Fatalf("%v has %v or not, and moved by %v the other way", list, v, m)
			}
		}
		b, ok := impl.SolidBox(list)
		if x, y := impl.SolidBox(moved); y != ok || ok && x != impl.BoxMoved(m, b) {
			t.Fatalf("SolidBox of %v moved by %v = %v", list, m, x)
		}
	}
}

func TestSolidsMadeOfTwo(t *testing.T) {
	source := rand.New(rand.NewSource(7777))
	r := ray(vec(-25, 1, 2), vec(6, 1, -1))
	for round := range 600 {
		a, b := someSolid(source, 1+round%12, smallMotions()), someSolid(source, 1+round%11, smallMotions())
		kind := either + round%3
		made := impl.SolidWith(kind, a, b)
		if !impl.SolidOk(made) || len(made) != len(a)+len(b)+1 {
			t.Fatalf("SolidWith(%d, %v, %v) = %v", kind, a, b, made)
		}
		for range 40 {
			v := vec(source.Intn(31)-15, source.Intn(31)-15, source.Intn(31)-15)
			if got := impl.SolidHas(made, v); got != together(kind, impl.SolidHas(a, v), impl.SolidHas(b, v)) {
				t.Fatalf("SolidWith(%d, %v, %v) has %v: %v", kind, a, b, v, got)
			}
		}
		if !slices.Equal(impl.SolidLeaves(made), slices.Concat(impl.SolidLeaves(a), impl.SolidLeaves(b))) {
			t.Fatalf("SolidLeaves(%v) = %v", made, impl.SolidLeaves(made))
		}
		if got, want := impl.SolidCut(made, r), wayOf(made, r).spans(); !slices.Equal(got, want) {
			t.Fatalf("SolidCut(%v, %v) = %v, want %v", made, r, got, want)
		}
	}
}

// standsWithin tells whether all motions together, and what stands behind them, are within the limits; around is what is done to places around a part.
func standsWithin(list []impl.Part, k int, around func(v impl.Vec) impl.Vec) bool {
	p := list[k]
	switch p.Kind {
	case impl.PartHalf:
		out, by := p.Half.Out, around(impl.Vec{})
		out = plus(around(out), vec(-by.X, -by.Y, -by.Z))
		return fromTo(p.Half.At+out.X*by.X+out.Y*by.Y+out.Z*by.Z, -20000, 20000)
	case impl.PartBall:
		return largest(around(p.Ball.At)) <= 400
	case impl.PartBox:
		return largest(around(p.Box.Low)) <= 400 && largest(around(p.Box.High)) <= 400
	case impl.PartMoved:
		inside := func(v impl.Vec) impl.Vec { return around(plus(tableOf(p.Move).of(v), p.Move.Move)) }
		return largest(inside(impl.Vec{})) <= 400 && standsWithin(list, p.A, inside)
	}
	return standsWithin(list, p.A, around) && standsWithin(list, p.B, around)
}

func TestMotionsThatGoTooFarTogether(t *testing.T) {
	source := rand.New(rand.NewSource(77777))
	motions := slices.Concat(motionsBy(vec(200, -100, 0)), motionsBy(vec(150, 0, -199)), motionsBy(vec(0, 0, 390)), motionsBy(vec(1, -2, 3)))
	ok, not := 0, 0
	for round := range 6000 {
		list := someSolid(source, 2+round%8, motions)
		want := standsWithin(list, len(list)-1, func(v impl.Vec) impl.Vec { return v })
		if got := impl.SolidOk(list); got != want {
			t.Fatalf("SolidOk(%v) = %v", list, got)
		}
		if want != (len(impl.SolidLeaves(list)) > 0) {
			t.Fatalf("SolidLeaves(%v) = %v", list, impl.SolidLeaves(list))
		}
		if want {
			ok++
		} else {
			not++
		}
	}
	if ok < 500 || not < 500 {
		t.Errorf("%d are solids, %d are none", ok, not)
	}
}

func TestSolidsAreNewMemory(t *testing.T) {
	m := straight(1, 2, 3)
	makes := []func(list []impl.Part) []impl.Part{
		impl.SolidLeaves,
		func(list []impl.Part) []impl.Part { return impl.SolidMoved(m, list) },
		func(list []impl.Part) []impl.Part { return impl.SolidWith(less, list, list) },
		func(list []impl.Part) []impl.Part { return impl.SolidWith(less, list, solid(cubePart(5))) },
		func(list []impl.Part) []impl.Part { return impl.SolidWith(less, solid(cubePart(5)), list) },
	}
	for i, of := range makes {
		for _, list := range [][]impl.Part{one(), solid(cubePart(5)), row(5)} {
			// The list has room behind it, where other parts stand.
			room := append(slices.Clone(list), row(8)...)
			before := slices.Clone(room)
			first, second := of(room[:len(list)]), of(room[:len(list)])
			again := slices.Clone(second)
			clear(first[:cap(first)])
			if len(again) == 0 || !slices.Equal(room, before) || !slices.Equal(second, again) {
				t.Errorf("%d: what is returned of %v shares memory", i, list)
			}
		}
	}
	list := solid(ballPart(impl.Vec{}, 5, 0))
	r := ray(vec(-10, 0, 0), vec(5, 0, 0))
	first, second := impl.SolidCut(list, r), impl.SolidCut(list, r)
	clear(first[:cap(first)])
	if !slices.Equal(second, []impl.Span{span(4096, 12288, 1, 1)}) {
		t.Errorf("what SolidCut returns shares memory: %v", second)
	}
}
