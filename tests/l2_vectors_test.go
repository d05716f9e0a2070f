package tests

import (
	"math"
	"math/big"
	"testing"

	"loop.example/wholelight/impl"
)

func vec(x int, y int, z int) impl.Vec {
	return impl.Vec{X: x, Y: y, Z: z}
}

// withPart returns a vector with another number as the part with an index.
func withPart(v impl.Vec, index int, n int) impl.Vec {
	switch index {
	case 0:
		v.X = n
	case 1:
		v.Y = n
	default:
		v.Z = n
	}
	return v
}

// beyond are numbers that are not from -most to most, the nearest ones among them.
func beyond(most int) []int {
	return []int{most + 1, -most - 1, 2 * most, -2 * most, math.MaxInt, math.MinInt, math.MinInt + 1}
}

// smallVectors are all vectors with parts from -most to most, zero among them.
func smallVectors(most int) []impl.Vec {
	list := []impl.Vec{}
	for x := -most; x <= most; x++ {
		for y := -most; y <= most; y++ {
			for z := -most; z <= most; z++ {
				list = append(list, vec(x, y, z))
			}
		}
	}
	return list
}

// someVectors are vectors of all sizes up to a limit, with parts at it and next to it.
func someVectors(most int) []impl.Vec {
	list := []impl.Vec{
		vec(0, 0, 0), vec(1, 0, 0), vec(0, -1, 0), vec(0, 0, 1), vec(1, -2, 3), vec(-5, 3, 2), vec(17, 0, -120),
		vec(199, -3, 50), vec(-7, 11, 13), vec(60, -84, 36),
	}
	for _, n := range []int{most, -most, most - 1, 1 - most} {
		list = append(list, vec(n, 0, 0), vec(0, n, 1), vec(-3, n, n), vec(n, n, n), vec(n, -n, n), vec(n, most-2, 1))
	}
	return list
}

func bigDot(a impl.Vec, b impl.Vec) *big.Int {
	sum := new(big.Int)
	for _, pair := range [][2]int{{a.X, b.X}, {a.Y, b.Y}, {a.Z, b.Z}} {
		sum.Add(sum, new(big.Int).Mul(big.NewInt(int64(pair[0])), big.NewInt(int64(pair[1]))))
	}
	return sum
}

func TestLimitsOfVectors(t *testing.T) {
	if impl.MaxPlace != 400 || impl.MaxStep != 200 || impl.MaxLong != 1048576 {
		t.Error("MaxPlace, MaxStep, MaxLong")
	}
}

func TestVecOkByHand(t *testing.T) {
	cases := []struct {
		v    impl.Vec
		most int
		want bool
	}{
		{vec(0, 0, 0), 0, true},
		{vec(1, 0, 0), 0, false},
		{vec(0, 0, -1), 0, false},
		{vec(3, -3, 3), 3, true},
		{vec(-3, 3, -3), 3, true},
		{vec(4, 0, 0), 3, false},
		{vec(0, 4, 0), 3, false},
		{vec(0, 0, 4), 3, false},
		{vec(-4, 0, 0), 3, false},
		{vec(0, -4, 0), 3, false},
		{vec(0, 0, -4), 3, false},
		{vec(0, 0, 0), -1, false},
		{vec(1, 1, 1), -1, false},
		{vec(-1, -1, -1), -1, false},
		{vec(0, 0, 0), math.MinInt, false},
		{vec(math.MinInt, math.MinInt, math.MinInt), math.MinInt, false},
		{vec(math.MaxInt, -math.MaxInt, math.MaxInt), math.MaxInt, true},
		{vec(0, math.MinInt, 0), math.MaxInt, false},
		{vec(math.MinInt, 0, 0), 5, false},
		{vec(0, 0, math.MaxInt), math.MaxInt - 1, false},
	}
	for _, c := range cases {
		if got := impl.VecOk(c.v, c.most); got != c.want {
			t.Errorf("VecOk(%v, %d) = %v", c.v, c.most, got)
		}
	}
}

func TestSumsAndProductsByHand(t *testing.T) {
	m := impl.MaxLong
	cases := []struct {
		a, b, plus, minus, cross impl.Vec
		dot                      int
	}{
		{vec(1, 0, 0), vec(0, 1, 0), vec(1, 1, 0), vec(1, -1, 0), vec(0, 0, 1), 0},
		{vec(0, 1, 0), vec(0, 0, 1), vec(0, 1, 1), vec(0, 1, -1), vec(1, 0, 0), 0},
		{vec(0, 0, 1), vec(1, 0, 0), vec(1, 0, 1), vec(-1, 0, 1), vec(0, 1, 0), 0},
		{vec(2, 0, 3), vec(5, 1, 1), vec(7, 1, 4), vec(-3, -1, 2), vec(-3, 13, 2), 13},
		{vec(1, 2, 3), vec(-4, 5, 6), vec(-3, 7, 9), vec(5, -3, -3), vec(-3, -18, 13), 24},
		{vec(0, 0, 0), vec(7, -8, 9), vec(7, -8, 9), vec(-7, 8, -9), vec(0, 0, 0), 0},
		{vec(m, m, m), vec(m, m, m), vec(2*m, 2*m, 2*m), vec(0, 0, 0), vec(0, 0, 0), 3 * m * m},
		{vec(m, m, m), vec(-m, -m, -m), vec(0, 0, 0), vec(2*m, 2*m, 2*m), vec(0, 0, 0), -3 * m * m},
		{vec(m, -m, m), vec(m, m, -m), vec(2*m, 0, 0), vec(0, -2*m, 2*m), vec(0, 2*m*m, 2*m*m), -m * m},
		{vec(-m, 1, 0), vec(-1, -m, 0), vec(-m-1, 1-m, 0), vec(1-m, m+1, 0), vec(0, 0, m*m+1), 0},
	}
	for _, c := range cases {
		if got := impl.Plus(c.a, c.b); got != c.plus {
			t.Errorf("Plus(%v, %v) = %v", c.a, c.b, got)
		}
		if got := impl.Minus(c.a, c.b); got != c.minus {
			t.Errorf("Minus(%v, %v) = %v", c.a, c.b, got)
		}
		if got := impl.Cross(c.a, c.b); got != c.cross {
			t.Errorf("Cross(%v, %v) = %v", c.a, c.b, got)
		}
		if got := impl.Dot(c.a, c.b); got != c.dot {
			t.Errorf("Dot(%v, %v) = %d", c.a, c.b, got)
		}
	}
}

func TestTimesByHand(t *testing.T) {
	m := impl.MaxLong
	cases := []struct {
		v    impl.Vec
		n    int
		want impl.Vec
	}{
		{vec(1, -2, 3), 4, vec(4, -8, 12)},
		{vec(1, -2, 3), -1, vec(-1, 2, -3)},
		{vec(1, -2, 3), 0, vec(0, 0, 0)},
		{vec(0, 0, 0), 9, vec(0, 0, 0)},
		{vec(m, -m, 1), m, vec(m*m, -m*m, m)},
		{vec(m, -m, 1), -m, vec(-m*m, m*m, -m)},
		{vec(1, -2, 3), m + 1, vec(0, 0, 0)},
		{vec(1, -2, 3), -m - 1, vec(0, 0, 0)},
		{vec(1, -2, 3), math.MaxInt, vec(0, 0, 0)},
		{vec(1, -2, 3), math.MinInt, vec(0, 0, 0)},
	}
	for _, c := range cases {
		if got := impl.Times(c.v, c.n); got != c.want {
			t.Errorf("Times(%v, %d) = %v", c.v, c.n, got)
		}
	}
}

func TestSumsAndProductsBeyondLimits(t *testing.T) {
	a, b, zero := vec(1, 2, 3), vec(-4, 5, 7), impl.Vec{}
	check := func(a impl.Vec, b impl.Vec) {
		t.Helper()
		if impl.Plus(a, b) != zero || impl.Minus(a, b) != zero || impl.Cross(a, b) != zero || impl.Dot(a, b) != 0 {
			t.Errorf("beyond the limits: %v and %v", a, b)
		}
	}
	for index := range 3 {
		for _, n := range beyond(impl.MaxLong) {
			check(withPart(a, index, n), b)
			check(a, withPart(b, index, n))
			check(withPart(a, index, n), zero)
			check(zero, withPart(b, index, n))
			if got := impl.Times(withPart(a, index, n), 2); got != zero {
				t.Errorf("Times(%v, 2) = %v", withPart(a, index, n), got)
			}
		}
	}
}

// checkPair holds two vectors against the rules that sums and products of two have.
func checkPair(t *testing.T, a impl.Vec, b impl.Vec) {
	t.Helper()
	zero := impl.Vec{}
	plus, minus, cross, dot := impl.Plus(a, b), impl.Minus(a, b), impl.Cross(a, b), impl.Dot(a, b)
	if plus != vec(a.X+b.X, a.Y+b.Y, a.Z+b.Z) || plus != impl.Plus(b, a) || minus != impl.Plus(a, impl.Times(b, -1)) {
		t.Errorf("%v and %v: Plus %v, Minus %v", a, b, plus, minus)
	}
	if int64(dot) != bigDot(a, b).Int64() || dot != impl.Dot(b, a) {
		t.Errorf("Dot(%v, %v) = %d", a, b, dot)
	}
	back := impl.Cross(b, a)
	if vec(cross.X+back.X, cross.Y+back.Y, cross.Z+back.Z) != zero || impl.Cross(a, a) != zero {
		t.Errorf("Cross(%v, %v) = %v, the other way round %v", a, b, cross, back)
	}
	if bigDot(cross, a).Sign() != 0 || bigDot(cross, b).Sign() != 0 {
		t.Errorf("Cross(%v, %v) = %v does not stand on both", a, b, cross)
	}
	// The squares of both products are the product of the squares.
	both := new(big.Int).Add(bigDot(cross, cross), new(big.Int).Mul(bigDot(a, b), bigDot(a, b)))
	if both.Cmp(new(big.Int).Mul(bigDot(a, a), bigDot(b, b))) != 0 {
		t.Errorf("Dot and Cross of %v and %v: %d, %v", a, b, dot, cross)
	}
}

func TestRulesOfTwoVectors(t *testing.T) {
	list := append(smallVectors(1), someVectors(impl.MaxLong)...)
	for _, a := range list {
		for _, b := range list {
			checkPair(t, a, b)
		}
	}
}

func TestRulesOfThreeVectors(t *testing.T) {
	list := append(smallVectors(1), someVectors(impl.MaxStep)...)
	for _, a := range list {
		for _, b := range list {
			for _, c := range list {
				if impl.Plus(impl.Plus(a, b), c) != impl.Plus(a, impl.Plus(b, c)) {
					t.Fatalf("Plus of %v, %v, %v", a, b, c)
				}
				if impl.Dot(a, impl.Plus(b, c)) != impl.Dot(a, b)+impl.Dot(a, c) {
					t.Fatalf("Dot of %v, %v, %v", a, b, c)
				}
				if impl.Cross(a, impl.Plus(b, c)) != impl.Plus(impl.Cross(a, b), impl.Cross(a, c)) {
					t.Fatalf("Cross of %v, %v, %v", a, b, c)
				}
				if impl.Dot(a, impl.Cross(b, c)) != impl.Dot(impl.Cross(a, b), c) {
					t.Fatalf("Dot and Cross of %v, %v, %v", a, b, c)
				}
			}
		}
	}
}

func TestRulesOfTimes(t *testing.T) {
	list := append(smallVectors(1), someVectors(impl.MaxStep)...)
	for _, a := range list {
		for _, b := range list {
			for _, n := range []int{-impl.MaxStep, -3, -1, 0, 1, 2, impl.MaxStep} {
				if impl.Times(impl.Plus(a, b), n) != impl.Plus(impl.Times(a, n), impl.Times(b, n)) {
					t.Fatalf("Times of %v, %v and %d", a, b, n)
				}
				if impl.Dot(impl.Times(a, n), b) != n*impl.Dot(a, b) {
					t.Fatalf("Dot and Times of %v, %v and %d", a, b, n)
				}
			}
		}
	}
}

func TestLongByHand(t *testing.T) {
	most := impl.MaxStep * impl.MaxStep
	cases := []struct {
		v    impl.Vec
		want int
	}{
		{vec(0, 0, 0), 0},
		{vec(1, 0, 0), 4096},
		{vec(0, 0, -1), 4096},
		{vec(1, 1, 0), 5792},
		{vec(-1, 1, -1), 7094},
		{vec(3, 4, 0), 20480},
		{vec(1, 2, 3), 15325},
		{vec(200, -200, 200), 1418896},
		{vec(most, 0, 0), 163840000},
		{vec(0, -most, 1), 163840000},
		{vec(most, most, -most), 283779204},
	}
	for _, c := range cases {
		if got := impl.Long(c.v); got != c.want {
			t.Errorf("Long(%v) = %d, want %d", c.v, got, c.want)
		}
	}
}

func TestLongIsTheGreatest(t *testing.T) {
	list := append(smallVectors(4), someVectors(impl.MaxStep*impl.MaxStep)...)
	for _, v := range list {
		long := int64(impl.Long(v))
		square := new(big.Int).Lsh(bigDot(v, v), 24)
		low, high := big.NewInt(long), big.NewInt(long+1)
		if long < 0 || low.Mul(low, low).Cmp(square) > 0 || high.Mul(high, high).Cmp(square) <= 0 {
			t.Errorf("Long(%v) = %d", v, long)
		}
	}
}

func TestLongBeyondLimits(t *testing.T) {
	for index := range 3 {
		for _, n := range append(beyond(40000), impl.MaxLong, -impl.MaxLong) {
			for _, v := range []impl.Vec{vec(0, 0, 0), vec(1, 2, 3)} {
				if got := impl.Long(withPart(v, index, n)); got != -1 {
					t.Errorf("Long(%v) = %d", withPart(v, index, n), got)
				}
			}
		}
	}
}

// shortened reckons Short from the chapter's words; big.Int's Quo drops what is left.
func shortened(v impl.Vec) impl.Vec {
	parts := [3]*big.Int{big.NewInt(int64(v.X)), big.NewInt(int64(v.Y)), big.NewInt(int64(v.Z))}
	common, greatest := new(big.Int), new(big.Int)
	for _, part := range parts {
		common.GCD(nil, nil, common, new(big.Int).Abs(part))
	}
	if common.Sign() == 0 {
		return v
	}
	for _, part := range parts {
		part.Quo(part, common)
		if part.CmpAbs(greatest) > 0 {
			greatest.Abs(part)
		}
	}
	by := greatest.Add(greatest, big.NewInt(199))
	by.Quo(by, big.NewInt(200))
	for _, part := range parts {
		part.Quo(part, by)
	}
	return vec(int(parts[0].Int64()), int(parts[1].Int64()), int(parts[2].Int64()))
}

func TestShortByHand(t *testing.T) {
	far := impl.Far
	cases := []struct{ v, want impl.Vec }{
		{vec(0, 0, 0), vec(0, 0, 0)},
		{vec(0, 0, -7), vec(0, 0, -1)},
		{vec(1, -1, 0), vec(1, -1, 0)},
		{vec(6, -9, 12), vec(2, -3, 4)},
		{vec(600, 300, -900), vec(2, 1, -3)},
		{vec(200, 1, 0), vec(200, 1, 0)},
		{vec(-200, 1, -200), vec(-200, 1, -200)},
		{vec(201, 1, 0), vec(100, 0, 0)},
		{vec(201, 2, -2), vec(100, 1, -1)},
		{vec(400, 1, 0), vec(200, 0, 0)},
		{vec(401, 399, -3), vec(133, 133, -1)},
		{vec(398, 200, 0), vec(199, 100, 0)},
		{vec(399, -398, 0), vec(199, -199, 0)},
		{vec(1000, -401, 0), vec(200, -80, 0)},
		{vec(1000, 4, 0), vec(125, 0, 0)},
		{vec(-250, -1, 0), vec(-125, 0, 0)},
		{vec(-251, -1, 1), vec(-125, 0, 0)},
		{vec(1, -1, 40001), vec(0, 0, 199)},
		{vec(600, -2, 1), vec(200, 0, 0)},
		{vec(far, far, far), vec(1, 1, 1)},
		{vec(0, -far, 0), vec(0, -1, 0)},
		{vec(far, 1, 0), vec(199, 0, 0)},
		{vec(far, far-1, -far), vec(199, 199, -199)},
		{vec(far-1, far, -1), vec(199, 199, 0)},
	}
	for _, c := range cases {
		if got := impl.Short(c.v); got != c.want {
			t.Errorf("Short(%v) = %v, want %v", c.v, got, c.want)
		}
	}
}

func TestShortAgainstNumbers(t *testing.T) {
	list := append(smallVectors(6), someVectors(impl.MaxStep)...)
	list = append(list, someVectors(impl.MaxLong)...)
	list = append(list, someVectors(impl.Far)...)
	for n := 1; n <= impl.Far/3; n = n*2 + n/7 + 1 {
		list = append(list, vec(n, -n/2, n/3), vec(3*n, 2*n, 0), vec(1, n, 1-n), vec(-n, n-201, 200))
	}
	for _, v := range list {
		got := impl.Short(v)
		if got != shortened(v) {
			t.Errorf("Short(%v) = %v, want %v", v, got, shortened(v))
		}
		if !impl.VecOk(got, impl.MaxStep) || (got == impl.Vec{}) != (v == impl.Vec{}) {
			t.Errorf("Short(%v) = %v is no direction", v, got)
		}
	}
}

func TestShortBeyondLimits(t *testing.T) {
	for index := range 3 {
		for _, n := range beyond(impl.Far) {
			for _, v := range []impl.Vec{vec(0, 0, 0), vec(1, 2, 3), vec(impl.Far, impl.Far, impl.Far)} {
				if got := impl.Short(withPart(v, index, n)); got != (impl.Vec{}) {
					t.Errorf("Short(%v) = %v", withPart(v, index, n), got)
				}
			}
		}
	}
}

func TestThrownByHand(t *testing.T) {
	cases := []struct{ v, n, want impl.Vec }{
		{vec(1, -1, 0), vec(0, 1, 0), vec(1, 1, 0)},
		{vec(1, -1, 0), vec(0, -7, 0), vec(1, 1, 0)},
		{vec(1, 2, 3), vec(1, 1, 1), vec(-3, -2, -1)},
		{vec(3, 5, -7), vec(3, 5, -7), vec(-3, -5, 7)},
		{vec(3, 6, -9), vec(1, 2, -3), vec(-1, -2, 3)},
		{vec(2, 4, 0), vec(2, -1, 0), vec(1, 2, 0)},
		{vec(0, 0, -1), vec(1, 0, 20), vec(20, 0, 199)},
		{vec(199, -3, 50), vec(7, 11, -13), vec(199, -57, 122)},
		{vec(200, 1, 0), vec(20, 1, 0), vec(-199, -19, 0)},
		{vec(200, 0, 0), vec(200, 1, 0), vec(-199, -2, 0)},
		{vec(200, -200, 200), vec(-200, -200, 200), vec(5, -1, 1)},
		{vec(200, 200, 200), vec(200, 200, 200), vec(-1, -1, -1)},
		{vec(200, 200, 200), vec(200, 199, 198), vec(-199, -198, -196)},
		{vec(200, 200, 200), vec(200, 200, 199), vec(-199, -199, -198)},
		{vec(-200, -200, -200), vec(200, 199, 200), vec(199, 198, 199)},
	}
	for _, c := range cases {
		if got := impl.Thrown(c.v, c.n); got != c.want {
			t.Errorf("Thrown(%v, %v) = %v, want %v", c.v, c.n, got, c.want)
		}
	}
}

// thrownBack reckons, without Short, where a vector goes, n by n times as great.
func thrownBack(v impl.Vec, n impl.Vec) impl.Vec {
	square := n.X*n.X + n.Y*n.Y + n.Z*n.Z
	twice := 2 * (v.X*n.X + v.Y*n.Y + v.Z*n.Z)
	return vec(v.X*square-n.X*twice, v.Y*square-n.Y*twice, v.Z*square-n.Z*twice)
}

func TestThrownAgainstNumbers(t *testing.T) {
	list := append(smallVectors(1), someVectors(impl.MaxStep)...)
	zero := impl.Vec{}
	for _, v := range list {
		for _, n := range list {
			want := shortened(thrownBack(v, n))
			if v == zero || n == zero {
				want = zero
			}
			if got := impl.Thrown(v, n); got != want {
				t.Errorf("Thrown(%v, %v) = %v, want %v", v, n, got, want)
			}
		}
	}
}

func TestThrownTwiceIsAsBefore(t *testing.T) {
	list := smallVectors(3)
	for _, v := range list {
		for _, n := range list {
			if v == (impl.Vec{}) || n == (impl.Vec{}) {
				continue
			}
			// With such small parts nothing is dropped, so that only common divisors are lost.
			if got := impl.Thrown(impl.Thrown(v, n), n); got != impl.Short(v) {
				t.Errorf("%v thrown back twice by %v is %v", v, n, got)
			}
		}
	}
}

func TestThrownAlongAndAcross(t *testing.T) {
	for _, v := range someVectors(impl.MaxStep) {
		if v == (impl.Vec{}) {
			continue
		}
		if got := impl.Thrown(v, v); got != impl.Times(impl.Short(v), -1) {
			t.Errorf("Thrown(%v, itself) = %v", v, got)
		}
		for _, n := range []impl.Vec{vec(0, v.Z, -v.Y), vec(-v.Z, 0, v.X), vec(v.Y, -v.X, 0)} {
			if n == (impl.Vec{}) {
				continue
			}
			if got := impl.Thrown(v, n); got != impl.Short(v) {
				t.Errorf("Thrown(%v, %v) = %v, which is across", v, n, got)
			}
		}
	}
}

func TestSlopeByHand(t *testing.T) {
	cases := []struct {
		a, b impl.Vec
		want int
	}{
		{vec(1, 0, 0), vec(1, 1, 0), 4096},
		{vec(1, 0, 0), vec(-1, 1, 0), -4096},
		{vec(1, 0, 0), vec(1, 2, 3), 1365},
		{vec(1, 0, 0), vec(-1, 2, 3), -1366},
		{vec(2, 0, 0), vec(0, 5, 0), 0},
		{vec(1, 2, 3), vec(3, 2, 1), 2925},
		{vec(0, 3, -4), vec(0, -4, 3), -3933},
		{vec(0, -1, 200), vec(1, 0, -1), -2905},
		{vec(200, 0, 1), vec(-1, 0, 199), -1},
		{vec(200, 200, 200), vec(200, 200, 200), 4096},
		{vec(200, 200, 200), vec(-200, -200, -200), -4096},
		{vec(200, 200, 200), vec(-200, -200, -199), -4096},
	}
	for _, c := range cases {
		if got := impl.Slope(c.a, c.b); got != c.want {
			t.Errorf("Slope(%v, %v) = %d, want %d", c.a, c.b, got, c.want)
		}
	}
}

// sloped reckons Slope from the chapter's words; big.Int's Div is a floor for divisors above 0.
func sloped(a impl.Vec, b impl.Vec) int {
	root := new(big.Int).Sqrt(new(big.Int).Mul(bigDot(a, a), bigDot(b, b)))
	slope := new(big.Int).Lsh(bigDot(a, b), 12)
	return max(-impl.One, min(impl.One, int(slope.Div(slope, root).Int64())))
}

func TestSlopeAgainstNumbers(t *testing.T) {
	list := append(smallVectors(2), someVectors(impl.MaxStep)...)
	zero := impl.Vec{}
	for _, a := range list {
		for _, b := range list {
			if a == zero || b == zero {
				if impl.Slope(a, b) != 0 {
					t.Errorf("Slope(%v, %v) = %d", a, b, impl.Slope(a, b))
				}
				continue
			}
			if got := impl.Slope(a, b); got != sloped(a, b) || got != impl.Slope(b, a) {
				t.Errorf("Slope(%v, %v) = %d, want %d", a, b, got, sloped(a, b))
			}
		}
		if a != zero && (impl.Slope(a, a) != impl.One || impl.Slope(a, impl.Times(a, -1)) != -impl.One) {
			t.Errorf("Slope of %v and itself is %d", a, impl.Slope(a, a))
		}
	}
}

func TestThrownAndSlopeOfNoDirections(t *testing.T) {
	zero, v := impl.Vec{}, vec(1, 2, 3)
	none := []impl.Vec{zero}
	for index := range 3 {
		for _, n := range append(beyond(impl.MaxStep), impl.MaxLong, -impl.MaxLong, impl.Far) {
			none = append(none, withPart(zero, index, n), withPart(v, index, n))
		}
	}
	for _, n := range none {
		if got := impl.Thrown(n, v); got != zero {
			t.Errorf("Thrown(%v, %v) = %v", n, v, got)
		}
		if got := impl.Thrown(v, n); got != zero {
			t.Errorf("Thrown(%v, %v) = %v", v, n, got)
		}
		if impl.Slope(n, v) != 0 || impl.Slope(v, n) != 0 || impl.Slope(n, n) != 0 {
			t.Errorf("Slope of %v", n)
		}
	}
}
