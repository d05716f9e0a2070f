package tests

import (
	"testing"

	"loop.example/wholelight/impl"
)

// reach is how far out the parts of places are that are asked for.
const reach = 2 * impl.MaxPlace

func ray(from impl.Vec, to impl.Vec) impl.Ray {
	return impl.Ray{From: from, To: to}
}

func half(out impl.Vec, at int) impl.Half {
	return impl.Half{Out: out, At: at}
}

func ball(at impl.Vec, round int) impl.Ball {
	return impl.Ball{At: at, Round: round}
}

// vectorsWithin are vectors of all sizes up to a limit, and none beyond it.
func vectorsWithin(most int) []impl.Vec {
	list := []impl.Vec{}
	for _, v := range someVectors(most) {
		if largest(v) <= most {
			list = append(list, v)
		}
	}
	return list
}

func largest(v impl.Vec) int {
	return max(v.X, -v.X, v.Y, -v.Y, v.Z, -v.Z)
}

// someRays are rays from places near and far in directions along axes, aslant, and at the limits.
func someRays() []impl.Ray {
	list := []impl.Ray{}
	ways := append(smallVectors(1), vectorsWithin(impl.MaxStep)...)
	for _, from := range append(vectorsWithin(reach), vec(5, 5, 5), vec(-4, 3, 0), vec(0, 9, -9)) {
		for _, to := range ways {
			if to != (impl.Vec{}) {
				list = append(list, ray(from, to))
			}
		}
	}
	return list
}

// noRays are rays that are none, each by one fault.
func noRays() []impl.Ray {
	from, to := vec(-10, 3, 7), vec(5, -1, 2)
	list := []impl.Ray{{}, ray(from, impl.Vec{})}
	for index := range 3 {
		for _, n := range append(beyond(reach), impl.MaxLong, impl.Far) {
			list = append(list, ray(withPart(from, index, n), to))
		}
		for _, n := range append(beyond(impl.MaxStep), impl.MaxLong, impl.Far) {
			list = append(list, ray(from, withPart(to, index, n)))
		}
	}
	return list
}

// someHalves are half-spaces with planes of all slopes, near and far.
func someHalves() []impl.Half {
	list := []impl.Half{}
	for _, out := range append(smallVectors(1), vectorsWithin(impl.MaxOut)...) {
		for _, at := range []int{-impl.MaxAt, -401, -7, 0, 5, 9, 1000, impl.MaxAt} {
			if out != (impl.Vec{}) {
				list = append(list, half(out, at))
			}
		}
	}
	return list
}

// noHalves are half-spaces that are none, each by one fault.
func noHalves() []impl.Half {
	out := vec(1, -2, 3)
	list := []impl.Half{{}, {At: 5}, {At: impl.MaxAt}}
	for _, n := range beyond(impl.MaxAt) {
		list = append(list, half(out, n))
	}
	for index := range 3 {
		for _, n := range append(beyond(impl.MaxOut), impl.MaxLong, impl.Far) {
			list = append(list, half(withPart(out, index, n), 4))
		}
	}
	return list
}

// someBalls are balls of all sizes, near and far.
func someBalls() []impl.Ball {
	list := []impl.Ball{}
	for _, at := range append(vectorsWithin(impl.MaxPlace), vec(3, 4, 5)) {
		for _, round := range []int{1, 2, 5, 60, impl.MaxStep - 1, impl.MaxStep} {
			list = append(list, ball(at, round))
		}
	}
	return list
}

// noBalls are balls that are none, each by one fault.
func noBalls() []impl.Ball {
	at := vec(1, -2, 3)
	list := []impl.Ball{{}, ball(at, 0), ball(at, -1), ball(at, -5)}
	for _, n := range append(beyond(impl.MaxStep), impl.MaxLong) {
		list = append(list, ball(at, n))
	}
	for index := range 3 {
		for _, n := range append(beyond(impl.MaxPlace), impl.MaxLong, impl.Far) {
			list = append(list, ball(withPart(at, index, n), 7))
		}
	}
	return list
}

func TestRayOk(t *testing.T) {
	for _, r := range someRays() {
		if !impl.RayOk(r) {
			t.Errorf("RayOk(%v) = false", r)
		}
	}
	for _, r := range noRays() {
		if impl.RayOk(r) {
			t.Errorf("RayOk(%v) = true", r)
		}
	}
	for index := range 3 {
		for _, sign := range []int{1, -1} {
			if !impl.RayOk(ray(withPart(impl.Vec{}, index, 800*sign), withPart(impl.Vec{}, index, 200*sign))) {
				t.Errorf("a ray at the limits of part %d is none", index)
			}
			if impl.RayOk(ray(withPart(impl.Vec{}, index, 801*sign), vec(1, 0, 0))) || impl.RayOk(ray(impl.Vec{}, withPart(vec(1, 1, 1), index, 201*sign))) {
				t.Errorf("a ray beyond the limits of part %d is one", index)
			}
		}
	}
}

func TestHalfOkAndBallOk(t *testing.T) {
	for _, h := range someHalves() {
		if !impl.HalfOk(h) {
			t.Errorf("HalfOk(%v) = false", h)
		}
	}
	for _, h := range noHalves() {
		if impl.HalfOk(h) {
			t.Errorf("HalfOk(%v) = true", h)
		}
	}
	for _, b := range someBalls() {
		if !impl.BallOk(b) {
			t.Errorf("BallOk(%v) = false", b)
		}
	}
	for _, b := range noBalls() {
		if impl.BallOk(b) {
			t.Errorf("BallOk(%v) = true", b)
		}
	}
	if impl.MaxOut != 20 || impl.MaxAt != 20000 {
		t.Errorf("MaxOut %d, MaxAt %d", impl.MaxOut, impl.MaxAt)
	}
}

func TestRayAtByHand(t *testing.T) {
	far := impl.Far
	slant := ray(vec(10, -20, 30), vec(1, -1, 3))
	cases := []struct {
		r    impl.Ray
		t    int
		want impl.Vec
	}{
		{ray(vec(-10, 0, 0), vec(5, 0, 0)), 0, vec(-10, 0, 0)},
		{ray(vec(-10, 0, 0), vec(5, 0, 0)), 2048, vec(-8, 0, 0)},
		{ray(vec(-10, 0, 0), vec(5, 0, 0)), 12288, vec(5, 0, 0)},
		{slant, 4096, vec(11, -21, 33)},
		{slant, 4095, vec(10, -21, 32)},
		{slant, 1, vec(10, -21, 30)},
		{slant, -1, vec(9, -20, 29)},
		{slant, -1366, vec(9, -20, 28)},
		{slant, -4096, vec(9, -19, 27)},
		{ray(vec(800, -800, 800), vec(200, -200, 199)), far, vec(52429600, -52429600, 52167456)},
		{ray(vec(800, -800, 800), vec(200, -200, 199)), -far, vec(-52428000, 52428000, -52165856)},
		{ray(vec(0, 0, 0), vec(0, 1, 0)), far - 1, vec(0, 262143, 0)},
		{ray(vec(0, 0, 0), vec(0, 1, 0)), 1 - far, vec(0, -262144, 0)},
		{slant, far + 1, vec(0, 0, 0)},
		{slant, -far - 1, vec(0, 0, 0)},
		{ray(vec(801, 0, 0), vec(1, 0, 0)), 0, vec(0, 0, 0)},
		{ray(vec(1, 2, 3), vec(0, 0, 0)), 0, vec(0, 0, 0)},
		{ray(vec(1, 2, 3), vec(0, 0, -201)), 5, vec(0, 0, 0)},
	}
	for _, c := range cases {
		if got := impl.RayAt(c.r, c.t); got != c.want {
			t.Errorf("RayAt(%v, %d) = %v, want %v", c.r, c.t, got, c.want)
		}
	}
}

func TestRayAtAlongRays(t *testing.T) {
	times := []int{-impl.Far, -70001, -4097, -4096, -1, 0, 1, 4095, 4096, 10000, impl.Far}
	for _, r := range someRays() {
		for _, time := range times {
			got := impl.RayAt(r, time)
			// Each part is the last whole one at or ahead of the exact place.
			over := vec(time*r.To.X-(got.X-r.From.X)*impl.One, time*r.To.Y-(got.Y-r.From.Y)*impl.One, time*r.To.Z-(got.Z-r.From.Z)*impl.One)
			if !fromTo(over.X, 0, impl.One-1) || !fromTo(over.Y, 0, impl.One-1) || !fromTo(over.Z, 0, impl.One-1) {
				t.Errorf("RayAt(%v, %d) = %v", r, time, got)
			}
		}
	}
	for _, r := range noRays() {
		for _, time := range append(times, beyond(impl.Far)...) {
			if got := impl.RayAt(r, time); got != (impl.Vec{}) {
				t.Errorf("RayAt(%v, %d) = %v", r, time, got)
			}
		}
	}
	for _, time := range beyond(impl.Far) {
		if got := impl.RayAt(ray(vec(1, 2, 3), vec(4, 5, 6)), time); got != (impl.Vec{}) {
			t.Errorf("RayAt behind %d parts = %v", time, got)
		}
	}
}

func TestRayMoved(t *testing.T) {
	for _, m := range someMotions() {
		rows := tableOf(m)
		for _, from := range vectorsWithin(reach) {
			r := ray(from, vec(200, -3, 50))
			want := ray(plus(rows.of(r.From), m.Move), rows.of(r.To))
			if largest(want.From) > reach {
				want = impl.Ray{}
			}
			if got := impl.RayMoved(m, r); got != want {
				t.Errorf("RayMoved(%v, %v) = %v, want %v", m, r, got, want)
			}
		}
	}
}

func TestRayMovedByHand(t *testing.T) {
	swap := motion([3]int{1, 0, 2}, [3]bool{true, false, false}, vec(0, 1, 5))
	cases := []struct{ r, want impl.Ray }{
		{ray(vec(1, 2, 3), vec(4, 5, 6)), ray(vec(-2, 2, 8), vec(-5, 4, 6))},
		{ray(vec(799, -800, 795), vec(200, 200, -200)), ray(vec(800, 800, 800), vec(-200, 200, -200))},
		{ray(vec(800, -800, 795), vec(200, 200, -200)), impl.Ray{}},
		{ray(vec(799, -800, 796), vec(200, 200, -200)), impl.Ray{}},
		{ray(vec(799, -801, 795), vec(200, 200, -200)), impl.Ray{}},
		{ray(vec(-800, 0, -800), vec(0, 0, 1)), ray(vec(0, -799, -795), vec(0, 0, 1))},
	}
	for _, c := range cases {
		if got := impl.RayMoved(swap, c.r); got != c.want {
			t.Errorf("RayMoved(%v, %v) = %v, want %v", swap, c.r, got, c.want)
		}
	}
}

func TestHalfHasByHand(t *testing.T) {
	cases := []struct {
		h    impl.Half
		v    impl.Vec
		want bool
	}{
		{half(vec(0, 0, -1), 0), vec(0, 0, 3), true},
		{half(vec(0, 0, -1), 0), vec(0, 0, 0), true},
		{half(vec(0, 0, -1), 0), vec(0, 0, -1), false},
		{half(vec(1, -2, 3), 4), vec(1, 0, 1), true},
		{half(vec(1, -2, 3), 4), vec(2, 0, 1), false},
		{half(vec(20, 20, 20), 20000), vec(800, 800, -600), true},
		{half(vec(20, 20, 20), 20000), vec(800, 800, -599), false},
		{half(vec(20, 20, 20), -20000), vec(-800, 600, -800), true},
		{half(vec(20, 20, 20), -20000), vec(-800, 601, -800), false},
		{half(vec(1, 0, 0), 20000), vec(800, 800, 800), true},
		{half(vec(1, 0, 0), 20000), vec(801, 0, 0), false},
		{half(vec(1, 0, 0), 20000), vec(0, -801, 0), false},
		{half(vec(1, 0, 0), 20000), vec(0, 0, 801), false},
		{half(vec(1, 0, 0), 20001), vec(0, 0, 0), false},
		{half(vec(21, 0, 0), 5), vec(0, 0, 0), false},
		{half(vec(0, 0, 0), 5), vec(0, 0, 0), false},
	}
	for _, c := range cases {
		if got := impl.HalfHas(c.h, c.v); got != c.want {
			t.Errorf("HalfHas(%v, %v) = %v", c.h, c.v, got)
		}
	}
}

func TestBallHasByHand(t *testing.T) {
	cases := []struct {
		b    impl.Ball
		v    impl.Vec
		want bool
	}{
		{ball(vec(0, 0, 0), 2), vec(2, 0, 0), true},
		{ball(vec(0, 0, 0), 2), vec(2, 1, 0), false},
		{ball(vec(0, 0, 0), 2), vec(-1, 1, -1), true},
		{ball(vec(0, 0, 0), 1), vec(0, 0, 0), true},
		{ball(vec(0, 0, 0), 3), vec(1, -2, 2), true},
		{ball(vec(0, 0, 0), 3), vec(-1, 2, 3), false},
		{ball(vec(400, -400, 400), 200), vec(600, -400, 400), true},
		{ball(vec(400, -400, 400), 200), vec(601, -400, 400), false},
		{ball(vec(400, -400, 400), 200), vec(800, -800, 800), false},
		{ball(vec(400, -400, 400), 200), vec(400, -520, 560), true},
		{ball(vec(400, -400, 400), 200), vec(401, -520, 560), false},
		{ball(vec(401, 0, 0), 200), vec(401, 0, 0), false},
		{ball(vec(0, 0, 0), 0), vec(0, 0, 0), false},
		{ball(vec(0, 0, 0), 201), vec(0, 0, 0), false},
		{ball(vec(0, 0, 0), -2), vec(0, 0, 0), false},
	}
	for _, c := range cases {
		if got := impl.BallHas(c.b, c.v); got != c.want {
			t.Errorf("BallHas(%v, %v) = %v", c.b, c.v, got)
		}
	}
}

func TestHasAgainstNumbers(t *testing.T) {
	places := append(smallVectors(3), vectorsWithin(reach)...)
	for _, v := range places {
		for _, h := range someHalves() {
			if got := impl.HalfHas(h, v); got != (bigDot(h.Out, v).Int64() <= int64(h.At)) {
				t.Errorf("HalfHas(%v, %v) = %v", h, v, got)
			}
		}
		for _, b := range someBalls() {
			away := vec(v.X-b.At.X, v.Y-b.At.Y, v.Z-b.At.Z)
			if got := impl.BallHas(b, v); got != (bigDot(away, away).Int64() <= int64(b.Round*b.Round)) {
				t.Errorf("BallHas(%v, %v) = %v", b, v, got)
			}
		}
	}
}

func TestHasOfInvalid(t *testing.T) {
	for index := range 3 {
		for _, n := range append(beyond(reach), impl.MaxLong, impl.Far) {
			v := withPart(vec(0, 0, 0), index, n)
			for _, out := range []impl.Vec{withPart(impl.Vec{}, index, 1), withPart(impl.Vec{}, index, -1), withPart(impl.Vec{}, (index+1)%3, 1)} {
				if impl.HalfHas(half(out, impl.MaxAt), v) {
					t.Errorf("HalfHas(%v, %v) = true", half(out, impl.MaxAt), v)
				}
			}
			if impl.BallHas(ball(vec(0, 0, 0), 200), v) {
				t.Errorf("BallHas of %v = true", v)
			}
		}
	}
	for _, v := range []impl.Vec{vec(0, 0, 0), vec(1, -2, 3), vec(-800, 800, -800)} {
		for _, h := range noHalves() {
			if impl.HalfHas(h, v) {
				t.Errorf("HalfHas(%v, %v) = true", h, v)
			}
		}
		for _, b := range noBalls() {
			if impl.BallHas(b, v) {
				t.Errorf("BallHas(%v, %v) = true", b, v)
			}
		}
	}
}

func TestHalfCutByHand(t *testing.T) {
	far := impl.Far
	cases := []struct {
		h        impl.Half
		r        impl.Ray
		from, to int
	}{
		{half(vec(1, 0, 0), 5), ray(vec(-10, 0, 0), vec(5, 0, 0)), -far, 12288},
		{half(vec(1, 0, 0), 5), ray(vec(-10, 0, 0), vec(-5, 0, 0)), -12288, far},
		{half(vec(0, 0, -1), 0), ray(vec(0, 0, 0), vec(0, 0, 9)), 0, far},
		{half(vec(2, 0, 0), 0), ray(vec(1, 0, 0), vec(3, 0, 0)), -far, -1366},
		{half(vec(2, 0, 0), 0), ray(vec(1, 0, 0), vec(-3, 0, 0)), 1365, far},
		{half(vec(1, -2, 3), 4), ray(vec(7, 8, -9), vec(3, -1, 2)), -far, 14894},
		{half(vec(1, -2, 3), 4), ray(vec(7, 8, -9), vec(-3, 1, -2)), -14895, far},
		// Along the plane: in it, on it, and out of it.
		{half(vec(0, 1, 0), 0), ray(vec(3, -1, 0), vec(1, 0, 0)), -far, far},
		{half(vec(0, 1, 0), 0), ray(vec(3, 0, 0), vec(1, 0, 0)), -far, far},
		{half(vec(0, 1, 0), 0), ray(vec(3, 1, 0), vec(1, 0, 0)), 0, 0},
		{half(vec(1, 1, 0), 0), ray(vec(2, -2, 0), vec(1, -1, 0)), -far, far},
		{half(vec(1, 1, 0), -1), ray(vec(2, -2, 0), vec(1, -1, 0)), 0, 0},
		{half(vec(1, 0, 0), -20000), ray(vec(800, 0, 0), vec(0, 3, 0)), 0, 0},
		// At the limits.
		{half(vec(20, 20, 20), 20000), ray(vec(800, 800, 800), vec(1, 0, 0)), -far, -5734400},
		{half(vec(20, 20, 20), -20000), ray(vec(800, 800, 800), vec(-1, 0, 0)), 13926400, far},
		{half(vec(20, 20, 20), 20000), ray(vec(-800, -800, -800), vec(1, 0, 0)), -far, 13926400},
		{half(vec(20, 20, 20), 20000), ray(vec(-800, -800, -800), vec(0, -1, 0)), -13926400, far},
		{half(vec(20, -20, 20), -20000), ray(vec(-800, 800, -800), vec(200, -200, 200)), -far, 9557},
		{half(vec(1, 0, 0), 20000), ray(vec(-800, 0, 0), vec(1, 0, 0)), -far, 85196800},
		{half(vec(1, 0, 0), -20000), ray(vec(800, 0, 0), vec(1, 0, 0)), -far, -85196800},
	}
	for _, c := range cases {
		if from, to := impl.HalfCut(c.h, c.r); from != c.from || to != c.to {
			t.Errorf("HalfCut(%v, %v) = %d, %d, want %d, %d", c.h, c.r, from, to, c.from, c.to)
		}
	}
}

// checkEdge holds an end in a half-space against how far out the ray is there and one part behind, One times as far.
func checkEdge(t *testing.T, h impl.Half, r impl.Ray, edge int) {
	t.Helper()
	outAt := func(t int) int64 {
		return bigDot(h.Out, r.From).Int64()*impl.One + bigDot(h.Out, r.To).Int64()*int64(t) - int64(h.At)*impl.One
	}
	if outAt(edge) > 0 == (outAt(edge+1) > 0) && outAt(edge) != 0 || outAt(edge+1) == 0 {
		t.Errorf("%v and %v: behind %d parts %d, then %d", h, r, edge, outAt(edge), outAt(edge+1))
	}
}

func TestHalfCutAgainstPlaces(t *testing.T) {
	for _, h := range someHalves() {
		for _, r := range someRays() {
			from, to := impl.HalfCut(h, r)
			switch by := bigDot(h.Out, r.To).Sign(); {
			case by == 0 && bigDot(h.Out, r.From).Int64() <= int64(h.At):
				if from != -impl.Far || to != impl.Far {
					t.Fatalf("HalfCut(%v, %v) = %d, %d, along it", h, r, from, to)
				}
			case by == 0:
				if from != 0 || to != 0 {
					t.Fatalf("HalfCut(%v, %v) = %d, %d, beside it", h, r, from, to)
				}
			case by > 0:
				if from != -impl.Far {
					t.Fatalf("HalfCut(%v, %v) = %d, %d, out of it", h, r, from, to)
				}
				checkEdge(t, h, r, to)
			default:
				if to != impl.Far {
					t.Fatalf("HalfCut(%v, %v) = %d, %d, into it", h, r, from, to)
				}
				checkEdge(t, h, r, from)
			}
		}
	}
}

func TestBallCutByHand(t *testing.T) {
	zero := impl.Vec{}
	cases := []struct {
		b        impl.Ball
		r        impl.Ray
		from, to int
	}{
		{ball(zero, 5), ray(vec(-10, 0, 0), vec(5, 0, 0)), 4096, 12288},
		{ball(zero, 5), ray(vec(0, 0, 0), vec(1, 1, 0)), -14482, 14481},
		{ball(zero, 3), ray(vec(10, 0, 0), vec(1, 0, 0)), -53248, -28672},
		{ball(zero, 3), ray(vec(10, 1, 0), vec(7, 0, 0)), -7507, -4197},
		{ball(zero, 2), ray(vec(5, 5, 5), vec(-1, -1, -1)), 15750, 25209},
		{ball(vec(1, 2, 3), 7), ray(vec(10, -4, 8), vec(-3, 2, -1)), 5506, 20239},
		// Rays that touch, and the nearest ones that do not.
		{ball(zero, 5), ray(vec(-10, 5, 0), vec(5, 0, 0)), 8192, 8192},
		{ball(zero, 5), ray(vec(-10, 6, 0), vec(5, 0, 0)), 0, 0},
		{ball(vec(0, 9, 0), 5), ray(vec(-10, 0, 0), vec(5, 0, 0)), 0, 0},
		{ball(zero, 1), ray(vec(-3, 1, 0), vec(7, 0, 0)), 1755, 1755},
		{ball(zero, 1), ray(vec(3, -1, 0), vec(7, 0, 0)), -1756, -1756},
		{ball(zero, 1), ray(vec(0, 0, 1), vec(0, 3, 0)), 0, 0},
		{ball(vec(3, 0, 0), 3), ray(vec(0, -9, 0), vec(0, 4, 0)), 9216, 9216},
		{ball(zero, 5), ray(vec(-10, -5, 0), vec(0, 0, 1)), 0, 0},
		// At the limits.
		{ball(zero, 1), ray(vec(-800, 0, 0), vec(200, 0, 0)), 16363, 16404},
		{ball(zero, 1), ray(vec(-800, 0, 0), vec(1, 0, 0)), 3272704, 3280896},
		{ball(zero, 200), ray(zero, vec(0, 0, -200)), -4096, 4096},
		{ball(zero, 200), ray(zero, vec(0, 1, 0)), -819200, 819200},
		{ball(vec(400, -400, 400), 200), ray(vec(-800, 800, -800), vec(200, -200, 200)), 22211, 26940},
		{ball(vec(400, 400, 400), 200), ray(vec(-800, -800, -800), vec(1, 1, 1)), 4442234, 5388165},
		{ball(vec(400, 400, 400), 200), ray(vec(-800, -800, -800), vec(199, 200, 200)), 22248, 26984},
		{ball(vec(-400, 400, -400), 1), ray(vec(800, -800, 800), vec(-200, 200, -200)), 24564, 24587},
	}
	for _, c := range cases {
		if from, to := impl.BallCut(c.b, c.r); from != c.from || to != c.to {
			t.Errorf("BallCut(%v, %v) = %d, %d, want %d, %d", c.b, c.r, from, to, c.from, c.to)
		}
	}
}

// outOfBall is how far out of a ball a ray is behind t parts: 0 on it, less in it, with squares of One times as far.
func outOfBall(b impl.Ball, r impl.Ray, t int) int {
	part := func(from int, to int, at int) int { return (from-at)*impl.One + t*to }
	x, y, z := part(r.From.X, r.To.X, b.At.X), part(r.From.Y, r.To.Y, b.At.Y), part(r.From.Z, r.To.Z, b.At.Z)
	return x*x + y*y + z*z - b.Round*b.Round*impl.One*impl.One
}

// towards is how much nearer to a ball's middle a ray still comes behind t parts.
func towards(b impl.Ball, r impl.Ray, t int) int {
	part := func(from int, to int, at int) int { return to * ((at-from)*impl.One - t*to) }
	return part(r.From.X, r.To.X, b.At.X) + part(r.From.Y, r.To.Y, b.At.Y) + part(r.From.Z, r.To.Z, b.At.Z)
}

// missesBall reports whether a ray has no place in a ball, by the square of the distance that the cross product tells.
func missesBall(b impl.Ball, r impl.Ray) bool {
	away := vec(r.From.X-b.At.X, r.From.Y-b.At.Y, r.From.Z-b.At.Z)
	across := impl.Cross(r.To, away)
	return bigDot(across, across).Int64() > int64(b.Round*b.Round)*bigDot(r.To, r.To).Int64()
}

func TestBallCutAgainstPlaces(t *testing.T) {
	hits, misses := 0, 0
	for _, b := range someBalls() {
		for _, r := range someRays() {
			from, to := impl.BallCut(b, r)
			if missesBall(b, r) {
				misses++
				if from != 0 || to != 0 {
					t.Fatalf("BallCut(%v, %v) = %d, %d, beside it", b, r, from, to)
				}
				continue
			}
			hits++
			// The first end is the last part that is not behind where the ray comes in.
			came := outOfBall(b, r, from) >= 0 && towards(b, r, from) >= 0
			passed := outOfBall(b, r, from+1) < 0 || towards(b, r, from+1) < 0
			if !came || !passed {
				t.Fatalf("BallCut(%v, %v) = %d, %d: the first end", b, r, from, to)
			}
			// The other end is the last part that is not behind where it goes out.
			inside := outOfBall(b, r, to) <= 0 || towards(b, r, to) >= 0
			gone := outOfBall(b, r, to+1) > 0 && towards(b, r, to+1) < 0
			if !inside || !gone {
				t.Fatalf("BallCut(%v, %v) = %d, %d: the other end", b, r, from, to)
			}
		}
	}
	if hits < 1000 || misses < 1000 {
		t.Errorf("%d rays go through balls, %d do not", hits, misses)
	}
}

func TestCutsOfInvalid(t *testing.T) {
	r, h, b := ray(vec(-10, 0, 0), vec(5, 0, 0)), half(vec(1, 0, 0), 5), ball(vec(0, 0, 0), 5)
	for _, none := range noRays() {
		if from, to := impl.HalfCut(h, none); from != 0 || to != 0 {
			t.Errorf("HalfCut(%v, %v) = %d, %d", h, none, from, to)
		}
		if from, to := impl.HalfCut(half(vec(0, 1, 0), impl.MaxAt), none); from != 0 || to != 0 {
			t.Errorf("HalfCut along %v = %d, %d", none, from, to)
		}
		for _, b := range []impl.Ball{b, ball(vec(-10, 3, 7), 200)} {
			if from, to := impl.BallCut(b, none); from != 0 || to != 0 {
				t.Errorf("BallCut(%v, %v) = %d, %d", b, none, from, to)
			}
		}
	}
	for _, none := range noHalves() {
		for _, r := range []impl.Ray{r, ray(vec(0, 0, 0), vec(0, 3, 2)), ray(vec(5, 5, 5), vec(-1, -1, -1))} {
			if from, to := impl.HalfCut(none, r); from != 0 || to != 0 {
				t.Errorf("HalfCut(%v, %v) = %d, %d", none, r, from, to)
			}
		}
	}
	for _, none := range noBalls() {
		for _, r := range []impl.Ray{r, ray(vec(1, -2, 3), vec(1, 1, 1)), ray(vec(402, -2, 3), vec(-1, 0, 0))} {
			if from, to := impl.BallCut(none, r); from != 0 || to != 0 {
				t.Errorf("BallCut(%v, %v) = %d, %d", none, r, from, to)
			}
		}
	}
}

func TestHalfMovedByHand(t *testing.T) {
	straight := [3]int{0, 1, 2}
	swap := motion([3]int{1, 0, 2}, [3]bool{true, false, false}, vec(10, 20, 30))
	cases := []struct {
		m       impl.Motion
		h, want impl.Half
	}{
		{swap, half(vec(1, 2, 3), 4), half(vec(-2, 1, 3), 94)},
		{swap, half(vec(0, 0, -1), 0), half(vec(0, 0, -1), -30)},
		{motion(straight, [3]bool{}, vec(0, 0, 0)), half(vec(20, -20, 20), -20000), half(vec(20, -20, 20), -20000)},
		{motion(straight, [3]bool{}, vec(0, 1, 0)), half(vec(0, 1, 0), 19999), half(vec(0, 1, 0), 20000)},
		{motion(straight, [3]bool{}, vec(0, 1, 0)), half(vec(0, 1, 0), 20000), impl.Half{}},
		{motion(straight, [3]bool{}, vec(0, 1, 0)), half(vec(0, -1, 0), -19999), half(vec(0, -1, 0), -20000)},
		{motion(straight, [3]bool{}, vec(0, 1, 0)), half(vec(0, -1, 0), -20000), impl.Half{}},
		{motion(straight, [3]bool{}, vec(400, 400, 400)), half(vec(20, 20, 20), -4000), half(vec(20, 20, 20), 20000)},
		{motion(straight, [3]bool{}, vec(400, 400, 400)), half(vec(20, 20, 20), -3999), impl.Half{}},
		{motion(straight, [3]bool{}, vec(-400, -400, -400)), half(vec(20, 20, 20), 3999), impl.Half{}},
	}
	for _, c := range cases {
		if got := impl.HalfMoved(c.m, c.h); got != c.want {
			t.Errorf("HalfMoved(%v, %v) = %v, want %v", c.m, c.h, got, c.want)
		}
	}
}

func TestBallMovedByHand(t *testing.T) {
	swap := motion([3]int{1, 0, 2}, [3]bool{true, false, false}, vec(0, 1, 5))
	cases := []struct{ b, want impl.Ball }{
		{ball(vec(1, 2, 3), 7), ball(vec(-2, 2, 8), 7)},
		{ball(vec(399, -400, 395), 200), ball(vec(400, 400, 400), 200)},
		{ball(vec(400, -400, 395), 200), impl.Ball{}},
		{ball(vec(399, -400, 396), 200), impl.Ball{}},
		{ball(vec(-400, 400, -400), 1), ball(vec(-400, -399, -395), 1)},
	}
	for _, c := range cases {
		if got := impl.BallMoved(swap, c.b); got != c.want {
			t.Errorf("BallMoved(%v, %v) = %v, want %v", swap, c.b, got, c.want)
		}
	}
}

func TestMovedOfNone(t *testing.T) {
	for _, m := range noMotions() {
		if got := impl.RayMoved(m, ray(vec(1, 2, 3), vec(4, 5, 6))); got != (impl.Ray{}) {
			t.Errorf("RayMoved(%v) = %v", m, got)
		}
		if got := impl.HalfMoved(m, half(vec(1, 2, 3), 4)); got != (impl.Half{}) {
			t.Errorf("HalfMoved(%v) = %v", m, got)
		}
		if got := impl.BallMoved(m, ball(vec(1, 2, 3), 4)); got != (impl.Ball{}) {
			t.Errorf("BallMoved(%v) = %v", m, got)
		}
	}
	// Moved by these, what is beyond a limit may be within it again.
	for _, m := range append(motionsBy(vec(-1, -1, -1)), motionsBy(vec(1, 1, 1))...) {
		for _, r := range noRays() {
			if got := impl.RayMoved(m, r); got != (impl.Ray{}) {
				t.Errorf("RayMoved(%v, %v) = %v", m, r, got)
			}
		}
		for _, h := range noHalves() {
			if got := impl.HalfMoved(m, h); got != (impl.Half{}) {
				t.Errorf("HalfMoved(%v, %v) = %v", m, h, got)
			}
		}
		for _, b := range noBalls() {
			if got := impl.BallMoved(m, b); got != (impl.Ball{}) {
				t.Errorf("BallMoved(%v, %v) = %v", m, b, got)
			}
		}
	}
}

// nearRays are rays that stay rays behind small motions.
func nearRays() []impl.Ray {
	return []impl.Ray{
		ray(vec(-10, 0, 0), vec(5, 0, 0)), ray(vec(3, -1, 0), vec(1, 0, 0)), ray(vec(-10, 5, 0), vec(5, 0, 0)), ray(vec(7, 8, -9), vec(3, -1, 2)),
		ray(vec(0, 0, 0), vec(1, 1, 0)), ray(vec(2, -2, 0), vec(1, -1, 0)), ray(vec(700, -700, 700), vec(-199, 200, -198)), ray(vec(1, -2, -700), vec(0, 0, 1)),
		ray(vec(-40, 30, 20), vec(17, -12, -9)), ray(vec(0, 9, 1), vec(0, -3, 0)),
	}
}

func TestRaysAreCutAtTheSamePlaces(t *testing.T) {
	moves := []impl.Vec{vec(0, 0, 0), vec(1, -2, 3), vec(-100, 100, 57)}
	places := append(smallVectors(2), vec(5, 0, 0), vec(-700, 699, 12))
	for _, move := range moves {
		for _, m := range motionsBy(move) {
			for _, r := range nearRays() {
				checkSameHalves(t, m, r)
				checkSameBalls(t, m, r)
			}
			for _, v := range places {
				checkSamePlaces(t, m, v)
			}
		}
	}
}

func checkSameHalves(t *testing.T, m impl.Motion, r impl.Ray) {
	t.Helper()
	moved := impl.RayMoved(m, r)
	for _, h := range someHalves() {
		h = half(h.Out, h.At/2)
		there := impl.HalfMoved(m, h)
		if !impl.HalfOk(there) || !impl.RayOk(moved) {
			t.Fatalf("%v makes of %v and %v: %v and %v", m, h, r, there, moved)
		}
		from, to := impl.HalfCut(h, r)
		if a, b := impl.HalfCut(there, moved); a != from || b != to {
			t.Fatalf("%v cuts %v from %d to %d, and moved by %v from %d to %d", h, r, from, to, m, a, b)
		}
	}
}

func checkSameBalls(t *testing.T, m impl.Motion, r impl.Ray) {
	t.Helper()
	moved := impl.RayMoved(m, r)
	for _, b := range someBalls() {
		b.At = vec(b.At.X*2/3, b.At.Y*2/3, b.At.Z*2/3)
		there := impl.BallMoved(m, b)
		if !impl.BallOk(there) || there.Round != b.Round {
			t.Fatalf("%v makes of %v %v", m, b, there)
		}
		from, to := impl.BallCut(b, r)
		if x, y := impl.BallCut(there, moved); x != from || y != to {
			t.Fatalf("%v cuts %v from %d to %d, and moved by %v from %d to %d", b, r, from, to, m, x, y)
		}
	}
}

func checkSamePlaces(t *testing.T, m impl.Motion, v impl.Vec) {
	t.Helper()
	there := impl.Moved(m, v)
	for _, h := range []impl.Half{half(vec(1, 0, 0), 0), half(vec(1, -1, 1), 2), half(vec(20, 19, -1), -33)} {
		if impl.HalfHas(h, v) != impl.HalfHas(impl.HalfMoved(m, h), there) {
			t.Fatalf("%v has %v: %v, and moved by %v not so", h, v, impl.HalfHas(h, v), m)
		}
	}
	for _, b := range []impl.Ball{ball(vec(0, 0, 0), 2), ball(vec(1, -1, 1), 3), ball(vec(-200, 200, 0), 200)} {
		if impl.BallHas(b, v) != impl.BallHas(impl.BallMoved(m, b), there) {
			t.Fatalf("%v has %v: %v, and moved by %v not so", b, v, impl.BallHas(b, v), m)
		}
	}
}
