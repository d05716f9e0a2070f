package tests

import (
	"math"
	"slices"
	"testing"

	"loop.example/wholelight/impl"
)

func motion(axis [3]int, back [3]bool, move impl.Vec) impl.Motion {
	return impl.Motion{Axis: axis, Back: back, Move: move}
}

// axisOrders are all orders of Axis, by the first number that differs.
var axisOrders = [][3]int{{0, 1, 2}, {0, 2, 1}, {1, 0, 2}, {1, 2, 0}, {2, 0, 1}, {2, 1, 0}}

// backs are all Back, as numbers from 0 to 7 are written in twos, X being the lowest digit.
var backs = [][3]bool{
	{false, false, false}, {true, false, false}, {false, true, false}, {true, true, false},
	{false, false, true}, {true, false, true}, {false, true, true}, {true, true, true},
}

// motionsBy are all turns with a move each.
func motionsBy(move impl.Vec) []impl.Motion {
	list := []impl.Motion{}
	for _, axis := range axisOrders {
		for _, back := range backs {
			list = append(list, motion(axis, back, move))
		}
	}
	return list
}

// someMotions are all turns with moves of all sizes, those at the limit among them.
func someMotions() []impl.Motion {
	most := impl.MaxPlace
	list := []impl.Motion{}
	for _, move := range []impl.Vec{vec(0, 0, 0), vec(1, -2, 3), vec(200, 0, -17), vec(most, -most, most-1), vec(-most, -most, -most)} {
		list = append(list, motionsBy(move)...)
	}
	return list
}

// noMotions are motions that are none, each by one fault, with the nearest faults among them.
func noMotions() []impl.Motion {
	list := []impl.Motion{{}, {Back: [3]bool{true, true, true}}, {Move: vec(1, 2, 3)}}
	for _, axis := range noOrders() {
		list = append(list, motion(axis, [3]bool{}, impl.Vec{}), motion(axis, [3]bool{true, false, true}, vec(1, -2, 3)))
	}
	for index := range 3 {
		for _, n := range beyond(impl.MaxPlace) {
			for _, axis := range axisOrders {
				list = append(list, motion(axis, [3]bool{}, withPart(impl.Vec{}, index, n)))
				list = append(list, motion(axis, [3]bool{true, true, false}, withPart(vec(5, -6, 7), index, n)))
			}
		}
	}
	return list
}

// noOrders are Axis that are not 0, 1 and 2 in some order.
func noOrders() [][3]int {
	list := [][3]int{{math.MinInt, 1, 2}, {0, math.MaxInt, 2}, {0, 1, math.MinInt}, {0, 1, math.MaxInt}}
	for x := -1; x <= 3; x++ {
		for y := -1; y <= 3; y++ {
			for z := -1; z <= 3; z++ {
				if axis := [3]int{x, y, z}; !slices.Contains(axisOrders, axis) {
					list = append(list, axis)
				}
			}
		}
	}
	return list
}

// table is a turn as rows of factors, which tells what it does without an order of axes.
type table [3][3]int

func tableOf(m impl.Motion) table {
	var rows table
	for i := range rows {
		rows[i][m.Axis[i]] = 1
		if m.Back[i] {
			rows[i][m.Axis[i]] = -1
		}
	}
	return rows
}

func (rows table) of(v impl.Vec) impl.Vec {
	row := func(i int) int { return rows[i][0]*v.X + rows[i][1]*v.Y + rows[i][2]*v.Z }
	return vec(row(0), row(1), row(2))
}

func (rows table) determinant() int {
	a, b, c := rows[0], rows[1], rows[2]
	return a[0]*(b[1]*c[2]-b[2]*c[1]) - a[1]*(b[0]*c[2]-b[2]*c[0]) + a[2]*(b[0]*c[1]-b[1]*c[0])
}

// plus adds vectors without the limits of Plus.
func plus(a impl.Vec, b impl.Vec) impl.Vec {
	return vec(a.X+b.X, a.Y+b.Y, a.Z+b.Z)
}

func TestMotionOkByHand(t *testing.T) {
	most := impl.MaxPlace
	cases := []struct {
		m    impl.Motion
		want bool
	}{
		{impl.Motion{}, false},
		{impl.Motion{Axis: [3]int{0, 1, 2}}, true},
		{motion([3]int{1, 0, 2}, [3]bool{true, false, false}, vec(0, 0, 5)), true},
		{motion([3]int{2, 1, 0}, [3]bool{true, true, true}, vec(most, -most, most)), true},
		{motion([3]int{1, 2, 0}, [3]bool{}, vec(-most, most, -most)), true},
		{motion([3]int{0, 0, 1}, [3]bool{}, vec(0, 0, 0)), false},
		{motion([3]int{0, 1, 0}, [3]bool{}, vec(0, 0, 0)), false},
		{motion([3]int{2, 1, 1}, [3]bool{}, vec(0, 0, 0)), false},
		{motion([3]int{1, 1, 1}, [3]bool{}, vec(0, 0, 0)), false},
		{motion([3]int{2, 2, 2}, [3]bool{}, vec(0, 0, 0)), false},
		{motion([3]int{0, 1, 3}, [3]bool{}, vec(0, 0, 0)), false},
		{motion([3]int{1, 2, 3}, [3]bool{}, vec(0, 0, 0)), false},
		{motion([3]int{-1, 2, 2}, [3]bool{}, vec(0, 0, 0)), false},
		{motion([3]int{-1, 0, 1}, [3]bool{}, vec(0, 0, 0)), false},
		{motion([3]int{0, 1, 2}, [3]bool{}, vec(most+1, 0, 0)), false},
		{motion([3]int{0, 1, 2}, [3]bool{}, vec(0, -most-1, 0)), false},
		{motion([3]int{0, 1, 2}, [3]bool{}, vec(0, 0, most+1)), false},
		{motion([3]int{0, 1, 2}, [3]bool{}, vec(0, 0, math.MinInt)), false},
	}
	for _, c := range cases {
		if got := impl.MotionOk(c.m); got != c.want {
			t.Errorf("MotionOk(%v) = %v", c.m, got)
		}
	}
}

func TestMotionOkOfAll(t *testing.T) {
	for _, m := range someMotions() {
		if !impl.MotionOk(m) {
			t.Errorf("MotionOk(%v) = false", m)
		}
	}
	for _, m := range noMotions() {
		if impl.MotionOk(m) {
			t.Errorf("MotionOk(%v) = true", m)
		}
	}
}

func TestMovedAndTurnedByHand(t *testing.T) {
	long := impl.MaxLong
	swap := motion([3]int{1, 0, 2}, [3]bool{true, false, false}, vec(0, 0, 5))
	round := motion([3]int{1, 2, 0}, [3]bool{false, true, false}, vec(400, -400, 1))
	cases := []struct {
		m                impl.Motion
		v, moved, turned impl.Vec
	}{
		{motion([3]int{1, 0, 2}, [3]bool{true, false, false}, vec(0, 0, 0)), vec(1, 2, 3), vec(-2, 1, 3), vec(-2, 1, 3)},
		{swap, vec(1, 2, 3), vec(-2, 1, 8), vec(-2, 1, 3)},
		{swap, vec(0, 0, 0), vec(0, 0, 5), vec(0, 0, 0)},
		{swap, vec(-long, long, long), vec(-long, -long, long+5), vec(-long, -long, long)},
		{round, vec(1, 2, 3), vec(402, -403, 2), vec(2, -3, 1)},
		{round, vec(-7, 0, 9), vec(400, -409, -6), vec(0, -9, -7)},
		{round, vec(long, long, long), vec(long+400, -long-400, long+1), vec(long, -long, long)},
		{motion([3]int{2, 0, 1}, [3]bool{false, false, true}, vec(0, 0, 0)), vec(1, 2, 3), vec(3, 1, -2), vec(3, 1, -2)},
		{motion([3]int{0, 1, 2}, [3]bool{false, false, false}, vec(1, 2, 3)), vec(-1, -2, -3), vec(0, 0, 0), vec(-1, -2, -3)},
		{motion([3]int{0, 1, 2}, [3]bool{true, true, true}, vec(0, 0, 0)), vec(4, -5, 6), vec(-4, 5, -6), vec(-4, 5, -6)},
	}
	for _, c := range cases {
		if got := impl.Moved(c.m, c.v); got != c.moved {
			t.Errorf("Moved(%v, %v) = %v, want %v", c.m, c.v, got, c.moved)
		}
		if got := impl.Turned(c.m, c.v); got != c.turned {
			t.Errorf("Turned(%v, %v) = %v, want %v", c.m, c.v, got, c.turned)
		}
	}
}

func TestMovedAndTurnedAgainstTables(t *testing.T) {
	list := append(smallVectors(1), someVectors(impl.MaxLong)...)
	for _, m := range someMotions() {
		rows := tableOf(m)
		for _, v := range list {
			turned := rows.of(v)
			if got := impl.Turned(m, v); got != turned {
				t.Errorf("Turned(%v, %v) = %v, want %v", m, v, got, turned)
			}
			if got := impl.Moved(m, v); got != plus(turned, m.Move) {
				t.Errorf("Moved(%v, %v) = %v, want %v", m, v, got, plus(turned, m.Move))
			}
		}
	}
}

func TestMovedAndTurnedOfNone(t *testing.T) {
	zero := impl.Vec{}
	for _, m := range noMotions() {
		for _, v := range []impl.Vec{zero, vec(1, 2, 3), vec(impl.MaxLong, 0, -impl.MaxLong)} {
			if impl.Moved(m, v) != zero || impl.Turned(m, v) != zero {
				t.Errorf("%v is no motion: Moved %v, Turned %v", m, impl.Moved(m, v), impl.Turned(m, v))
			}
		}
	}
	for _, m := range motionsBy(vec(1, -2, 3)) {
		for index := range 3 {
			for _, n := range beyond(impl.MaxLong) {
				v := withPart(vec(4, 5, 6), index, n)
				if impl.Moved(m, v) != zero || impl.Turned(m, v) != zero {
					t.Errorf("%v of %v: Moved %v, Turned %v", m, v, impl.Moved(m, v), impl.Turned(m, v))
				}
			}
		}
	}
}

func TestTurnsKeepProducts(t *testing.T) {
	list := append(smallVectors(1), someVectors(impl.MaxStep)...)
	for _, m := range motionsBy(vec(7, 8, -9)) {
		for _, a := range list {
			for _, b := range list {
				x, y := impl.Turned(m, a), impl.Turned(m, b)
				if impl.Dot(x, y) != impl.Dot(a, b) {
					t.Fatalf("%v: Dot of %v and %v", m, a, b)
				}
				if impl.Cross(x, y) != impl.Times(impl.Turned(m, impl.Cross(a, b)), impl.Hand(m)) {
					t.Fatalf("%v: Cross of %v and %v, Hand %d", m, a, b, impl.Hand(m))
				}
				if impl.Minus(impl.Moved(m, a), impl.Moved(m, b)) != impl.Turned(m, impl.Minus(a, b)) {
					t.Fatalf("%v: Minus of %v and %v", m, a, b)
				}
			}
		}
	}
}

func TestUndoneByHand(t *testing.T) {
	cases := []struct{ m, want impl.Motion }{
		{
			motion([3]int{0, 1, 2}, [3]bool{}, vec(1, -2, 400)),
			motion([3]int{0, 1, 2}, [3]bool{}, vec(-1, 2, -400)),
		},
		{
			motion([3]int{1, 0, 2}, [3]bool{true, false, false}, vec(0, 0, 5)),
			motion([3]int{1, 0, 2}, [3]bool{false, true, false}, vec(0, 0, -5)),
		},
		{
			motion([3]int{1, 2, 0}, [3]bool{true, false, false}, vec(1, 2, 3)),
			motion([3]int{2, 0, 1}, [3]bool{false, true, false}, vec(-3, 1, -2)),
		},
		{
			motion([3]int{2, 0, 1}, [3]bool{true, true, false}, vec(400, -400, 17)),
			motion([3]int{1, 2, 0}, [3]bool{true, false, true}, vec(-400, -17, 400)),
		},
		{
			motion([3]int{2, 1, 0}, [3]bool{true, true, true}, vec(-400, 0, 9)),
			motion([3]int{2, 1, 0}, [3]bool{true, true, true}, vec(9, 0, -400)),
		},
	}
	for _, c := range cases {
		if got := impl.Undone(c.m); got != c.want {
			t.Errorf("Undone(%v) = %v, want %v", c.m, got, c.want)
		}
	}
}

func TestMotionsAreUndone(t *testing.T) {
	// Behind a motion a place must still be one that Moved takes.
	list := append(smallVectors(1), someVectors(impl.MaxLong-impl.MaxPlace)...)
	still := impl.AllTurns()[0]
	for _, m := range someMotions() {
		undone := impl.Undone(m)
		if !impl.MotionOk(undone) || impl.Undone(undone) != m {
			t.Fatalf("Undone(%v) = %v, undone again %v", m, undone, impl.Undone(undone))
		}
		if impl.Together(m, undone) != still || impl.Together(undone, m) != still {
			t.Errorf("%v and what undoes it do not stand still together", m)
		}
		for _, v := range list {
			if got := impl.Moved(undone, impl.Moved(m, v)); got != v {
				t.Errorf("%v moved by %v and back is %v", v, m, got)
			}
			if got := impl.Moved(m, impl.Moved(undone, v)); got != v {
				t.Errorf("%v moved back by %v and again is %v", v, m, got)
			}
			if got := impl.Turned(undone, impl.Turned(m, v)); got != v {
				t.Errorf("%v turned by %v and back is %v", v, m, got)
			}
		}
	}
}

func TestTogetherByHand(t *testing.T) {
	swap := motion([3]int{1, 0, 2}, [3]bool{true, false, false}, vec(0, 0, 5))
	round := motion([3]int{1, 2, 0}, [3]bool{false, true, false}, vec(10, 20, 30))
	still := motion([3]int{0, 1, 2}, [3]bool{}, vec(0, 0, 0))
	cases := []struct{ a, b, want impl.Motion }{
		{still, still, still},
		{swap, still, swap},
		{still, round, round},
		{swap, swap, motion([3]int{0, 1, 2}, [3]bool{true, true, false}, vec(0, 0, 10))},
		{swap, round, motion([3]int{0, 2, 1}, [3]bool{false, true, true}, vec(10, 15, 30))},
		{round, swap, motion([3]int{2, 1, 0}, [3]bool{false, false, false}, vec(-20, 10, 35))},
		{round, round, motion([3]int{2, 0, 1}, [3]bool{true, true, false}, vec(30, -10, 40))},
	}
	for _, c := range cases {
		if got := impl.Together(c.a, c.b); got != c.want {
			t.Errorf("Together(%v, %v) = %v, want %v", c.a, c.b, got, c.want)
		}
	}
}

func TestTogetherIsOneBehindTheOther(t *testing.T) {
	places := []impl.Vec{vec(0, 0, 0), vec(1, 2, 3), vec(-400, 399, 17), vec(impl.MaxLong-400, 1, 400-impl.MaxLong)}
	for _, a := range motionsBy(vec(100, -200, 150)) {
		for _, b := range motionsBy(vec(-3, 200, 200)) {
			both := impl.Together(a, b)
			if !impl.MotionOk(both) {
				t.Fatalf("Together(%v, %v) = %v", a, b, both)
			}
			for _, v := range places {
				if impl.Moved(both, v) != impl.Moved(b, impl.Moved(a, v)) {
					t.Fatalf("Together(%v, %v) = %v at %v", a, b, both, v)
				}
				if impl.Turned(both, v) != impl.Turned(b, impl.Turned(a, v)) {
					t.Fatalf("Together(%v, %v) = %v along %v", a, b, both, v)
				}
			}
			if impl.Undone(both) != impl.Together(impl.Undone(b), impl.Undone(a)) {
				t.Fatalf("Undone of %v and %v together", a, b)
			}
			if impl.Hand(both) != impl.Hand(a)*impl.Hand(b) {
				t.Fatalf("Hand of %v and %v together", a, b)
			}
		}
	}
}

func TestThreeMotionsTogether(t *testing.T) {
	for _, a := range motionsBy(vec(1, 2, 3)) {
		for _, b := range motionsBy(vec(-40, 50, 60)) {
			for _, c := range motionsBy(vec(0, -100, 200)) {
				if impl.Together(impl.Together(a, b), c) != impl.Together(a, impl.Together(b, c)) {
					t.Fatalf("Together of %v, %v, %v", a, b, c)
				}
			}
		}
	}
}

func TestTogetherAtTheLimit(t *testing.T) {
	straight := [3]int{0, 1, 2}
	cases := []struct {
		a, b impl.Motion
		want impl.Vec
		ok   bool
	}{
		{motion(straight, [3]bool{}, vec(400, -400, 400)), motion(straight, [3]bool{}, vec(0, 0, 0)), vec(400, -400, 400), true},
		{motion(straight, [3]bool{}, vec(200, -1, 0)), motion(straight, [3]bool{}, vec(200, -399, 0)), vec(400, -400, 0), true},
		{motion(straight, [3]bool{}, vec(200, 0, 0)), motion(straight, [3]bool{}, vec(201, 0, 0)), vec(0, 0, 0), false},
		{motion(straight, [3]bool{}, vec(0, -400, 0)), motion(straight, [3]bool{}, vec(0, -1, 0)), vec(0, 0, 0), false},
		{motion(straight, [3]bool{}, vec(0, 0, 1)), motion(straight, [3]bool{}, vec(0, 0, 400)), vec(0, 0, 0), false},
		{motion(straight, [3]bool{}, vec(400, 400, 400)), motion(straight, [3]bool{}, vec(400, 400, 400)), vec(0, 0, 0), false},
		{motion(straight, [3]bool{}, vec(400, -400, 0)), motion(straight, [3]bool{}, vec(-400, 400, 0)), vec(0, 0, 0), true},
		{motion(straight, [3]bool{}, vec(400, 0, 0)), motion(straight, [3]bool{true, false, false}, vec(400, 0, 0)), vec(0, 0, 0), true},
		{motion(straight, [3]bool{}, vec(400, 0, 0)), motion(straight, [3]bool{true, false, false}, vec(-1, 0, 0)), vec(0, 0, 0), false},
		{motion(straight, [3]bool{true, false, false}, vec(400, 0, 0)), motion(straight, [3]bool{}, vec(-400, 0, 0)), vec(0, 0, 0), true},
		{motion(straight, [3]bool{}, vec(400, 0, 0)), motion([3]int{1, 0, 2}, [3]bool{}, vec(400, 0, 0)), vec(400, 400, 0), true},
		{motion(straight, [3]bool{}, vec(400, 0, 0)), motion([3]int{1, 0, 2}, [3]bool{}, vec(0, 1, 0)), vec(0, 0, 0), false},
	}
	for _, c := range cases {
		got := impl.Together(c.a, c.b)
		if !c.ok && got != (impl.Motion{}) || c.ok && (got.Move != c.want || !impl.MotionOk(got)) {
			t.Errorf("Together(%v, %v) = %v", c.a, c.b, got)
		}
	}
}

func TestUndoneTogetherAndHandOfNone(t *testing.T) {
	zero := impl.Motion{}
	some := motionsBy(vec(0, 0, 0))
	for _, m := range noMotions() {
		if got := impl.Undone(m); got != zero {
			t.Errorf("Undone(%v) = %v", m, got)
		}
		if got := impl.Hand(m); got != 0 {
			t.Errorf("Hand(%v) = %d", m, got)
		}
		if got := impl.Together(m, m); got != zero {
			t.Errorf("Together(%v, itself) = %v", m, got)
		}
		for _, other := range some {
			if impl.Together(m, other) != zero || impl.Together(other, m) != zero {
				t.Errorf("Together of %v and %v", m, other)
			}
		}
		// What both move may be within the limit again, but one of both is none.
		back := motion([3]int{0, 1, 2}, [3]bool{}, vec(-1, -1, -1))
		if impl.Together(m, back) != zero || impl.Together(back, m) != zero {
			t.Errorf("Together of %v and %v", m, back)
		}
	}
}

func TestAllTurnsInOrder(t *testing.T) {
	got := impl.AllTurns()
	if !slices.Equal(got, motionsBy(impl.Vec{})) {
		t.Errorf("AllTurns() = %v", got)
	}
	for _, c := range []struct {
		index int
		want  impl.Motion
	}{
		{0, impl.Motion{Axis: [3]int{0, 1, 2}}},
		{1, impl.Motion{Axis: [3]int{0, 1, 2}, Back: [3]bool{true, false, false}}},
		{4, impl.Motion{Axis: [3]int{0, 1, 2}, Back: [3]bool{false, false, true}}},
		{8, impl.Motion{Axis: [3]int{0, 2, 1}}},
		{22, impl.Motion{Axis: [3]int{1, 0, 2}, Back: [3]bool{false, true, true}}},
		{27, impl.Motion{Axis: [3]int{1, 2, 0}, Back: [3]bool{true, true, false}}},
		{37, impl.Motion{Axis: [3]int{2, 0, 1}, Back: [3]bool{true, false, true}}},
		{47, impl.Motion{Axis: [3]int{2, 1, 0}, Back: [3]bool{true, true, true}}},
	} {
		if len(got) != 48 || got[c.index] != c.want {
			t.Fatalf("%d turns, %d of which is not %v", len(got), c.index, c.want)
		}
	}
}

func TestAllTurnsAreClosed(t *testing.T) {
	turns := impl.AllTurns()
	for i, a := range turns {
		if !impl.MotionOk(a) || slices.Index(turns, a) != i || !slices.Contains(turns, impl.Undone(a)) {
			t.Errorf("turn %d: %v", i, a)
		}
		for _, b := range turns {
			if !slices.Contains(turns, impl.Together(a, b)) {
				t.Errorf("Together(%v, %v) is none of the turns", a, b)
			}
		}
	}
}

func TestAllTurnsAreNewMemory(t *testing.T) {
	a, b := impl.AllTurns(), impl.AllTurns()
	whole := a[:cap(a)]
	for i := range whole {
		whole[i] = impl.Motion{Move: vec(-1, -1, -1)}
	}
	want := motionsBy(impl.Vec{})
	if !slices.Equal(b, want) || !slices.Equal(impl.AllTurns(), want) {
		t.Error("AllTurns share memory")
	}
}

func TestHandByHand(t *testing.T) {
	cases := []struct {
		axis [3]int
		back [3]bool
		want int
	}{
		{[3]int{0, 1, 2}, [3]bool{}, 1},
		{[3]int{0, 1, 2}, [3]bool{true, false, false}, -1},
		{[3]int{0, 1, 2}, [3]bool{false, true, true}, 1},
		{[3]int{0, 1, 2}, [3]bool{true, true, true}, -1},
		{[3]int{1, 0, 2}, [3]bool{}, -1},
		{[3]int{1, 0, 2}, [3]bool{true, false, false}, 1},
		{[3]int{0, 2, 1}, [3]bool{}, -1},
		{[3]int{2, 1, 0}, [3]bool{}, -1},
		{[3]int{2, 1, 0}, [3]bool{true, true, true}, 1},
		{[3]int{1, 2, 0}, [3]bool{}, 1},
		{[3]int{2, 0, 1}, [3]bool{}, 1},
		{[3]int{2, 0, 1}, [3]bool{false, false, true}, -1},
	}
	for _, c := range cases {
		for _, move := range []impl.Vec{vec(0, 0, 0), vec(-400, 5, 400)} {
			if got := impl.Hand(motion(c.axis, c.back, move)); got != c.want {
				t.Errorf("Hand of Axis %v, Back %v = %d", c.axis, c.back, got)
			}
		}
	}
}

func TestHandIsTheDeterminant(t *testing.T) {
	for _, m := range someMotions() {
		if got := impl.Hand(m); got != tableOf(m).determinant() || got != impl.Hand(impl.Undone(m)) {
			t.Errorf("Hand(%v) = %d", m, got)
		}
	}
}
