package tests

import (
	"math"
	"math/big"
	"slices"
	"testing"

	"loop.example/wholelight/impl"
)

// edges are numbers around all limits of chapter 1, with both signs.
func edges() []int {
	list := []int{math.MinInt, math.MinInt + 1, math.MaxInt - 1, math.MaxInt}
	for _, n := range []int{0, 1, 2, 3, 7, 10, impl.One, impl.Far, 1 << 31, 1 << 53, impl.Whole} {
		for d := -1; d <= 1; d++ {
			list = append(list, n+d, -(n + d))
		}
	}
	slices.Sort(list)
	return slices.Compact(list)
}

func fromTo(n int, low int, high int) bool {
	return n >= low && n <= high
}

// aboveQuotient tells how n stands to the exact quotient of a and b: -1 below it, 0 at it, 1 above it.
func aboveQuotient(n *big.Int, a int, b int) int {
	order := new(big.Int).Mul(n, big.NewInt(int64(b))).Cmp(big.NewInt(int64(a)))
	if b < 0 {
		return -order
	}
	return order
}

func checkQuotient(t *testing.T, a int, b int) {
	t.Helper()
	floor, ceil, rest := impl.Floor(a, b), impl.Ceil(a, b), impl.Rest(a, b)
	if b == 0 || !fromTo(a, -impl.Whole, impl.Whole) || !fromTo(b, -impl.Whole, impl.Whole) {
		if floor != 0 || ceil != 0 || rest != 0 {
			t.Errorf("invalid %d by %d: Floor %d, Ceil %d, Rest %d", a, b, floor, ceil, rest)
		}
		return
	}
	one := big.NewInt(1)
	low := big.NewInt(int64(floor))
	if aboveQuotient(low, a, b) > 0 || aboveQuotient(new(big.Int).Add(low, one), a, b) <= 0 {
		t.Errorf("Floor(%d, %d) = %d", a, b, floor)
	}
	high := big.NewInt(int64(ceil))
	if aboveQuotient(high, a, b) < 0 || aboveQuotient(new(big.Int).Sub(high, one), a, b) >= 0 {
		t.Errorf("Ceil(%d, %d) = %d", a, b, ceil)
	}
	left := new(big.Int).Mul(low, big.NewInt(int64(b)))
	left.Sub(big.NewInt(int64(a)), left)
	if left.Cmp(big.NewInt(int64(rest))) != 0 {
		t.Errorf("Rest(%d, %d) = %d, want %s", a, b, rest, left)
	}
}

func TestQuotientsOfSmallNumbers(t *testing.T) {
	for a := -60; a <= 60; a++ {
		for b := -20; b <= 20; b++ {
			checkQuotient(t, a, b)
		}
	}
}

func TestQuotientsAtLimits(t *testing.T) {
	for _, a := range edges() {
		for _, b := range edges() {
			checkQuotient(t, a, b)
		}
	}
}

func TestQuotientsByHand(t *testing.T) {
	cases := []struct{ a, b, floor, ceil, rest int }{
		{-7, 2, -4, -3, 1},
		{7, 2, 3, 4, 1},
		{7, -2, -4, -3, -1},
		{-7, -2, 3, 4, -1},
		{6, -3, -2, -2, 0},
		{-6, -3, 2, 2, 0},
		{1, 2, 0, 1, 1},
		{-1, 2, -1, 0, 1},
		{1, -2, -1, 0, -1},
		{0, -5, 0, 0, 0},
		{5, 0, 0, 0, 0},
		{impl.Whole, -1, -impl.Whole, -impl.Whole, 0},
		{-impl.Whole, -1, impl.Whole, impl.Whole, 0},
		{-1, impl.Whole, -1, 0, impl.Whole - 1},
		{1, -impl.Whole, -1, 0, 1 - impl.Whole},
		{impl.Whole + 1, 1, 0, 0, 0},
		{-impl.Whole - 1, 1, 0, 0, 0},
		{1, impl.Whole + 1, 0, 0, 0},
		{-1, -impl.Whole - 1, 0, 0, 0},
		{math.MinInt, -1, 0, 0, 0},
		{math.MaxInt, 2, 0, 0, 0},
	}
	for _, c := range cases {
		floor, ceil, rest := impl.Floor(c.a, c.b), impl.Ceil(c.a, c.b), impl.Rest(c.a, c.b)
		if floor != c.floor || ceil != c.ceil || rest != c.rest {
			t.Errorf("%d by %d: Floor %d, Ceil %d, Rest %d", c.a, c.b, floor, ceil, rest)
		}
	}
}

// checkRoots holds both roots of a valid number against what their squares must be.
func checkRoots(t *testing.T, n int) {
	t.Helper()
	number := big.NewInt(int64(n))
	square := func(root int) *big.Int {
		r := big.NewInt(int64(root))
		return r.Mul(r, r)
	}
	root := impl.Root(n)
	if root < 0 || square(root).Cmp(number) > 0 || square(root+1).Cmp(number) <= 0 {
		t.Errorf("Root(%d) = %d", n, root)
	}
	up := impl.RootUp(n)
	if up < 0 || square(up).Cmp(number) < 0 || up > 0 && square(up-1).Cmp(number) >= 0 {
		t.Errorf("RootUp(%d) = %d", n, up)
	}
}

func TestRootsOfSmallNumbers(t *testing.T) {
	for n := 0; n <= 20000; n++ {
		checkRoots(t, n)
	}
}

func TestRootsAtLimits(t *testing.T) {
	for _, n := range edges() {
		if fromTo(n, 0, impl.Whole) {
			checkRoots(t, n)
		} else if impl.Root(n) != -1 || impl.RootUp(n) != -1 {
			t.Errorf("invalid %d: Root %d, RootUp %d", n, impl.Root(n), impl.RootUp(n))
		}
	}
}

func TestRootsAroundSquares(t *testing.T) {
	roots := []int{}
	for bit := 1; bit <= 31; bit++ {
		roots = append(roots, 1<<bit-1, 1<<bit, 1<<bit+1)
	}
	for root := 5; root < 1<<31; root = root*3 + 1 {
		roots = append(roots, root)
	}
	for _, root := range roots {
		for n := root*root - 1; n <= root*root+1; n++ {
			if n <= impl.Whole {
				checkRoots(t, n)
			}
		}
	}
}

func TestRootsByHand(t *testing.T) {
	cases := []struct{ n, root, up int }{
		{0, 0, 0},
		{1, 1, 1},
		{2, 1, 2},
		{3, 1, 2},
		{4, 2, 2},
		{10, 3, 4},
		{impl.One, 64, 64},
		{impl.One + 1, 64, 65},
		{impl.Far - 1, 1<<15 - 1, 1 << 15},
		{impl.Far, 1 << 15, 1 << 15},
		{impl.Far + 1, 1 << 15, 1<<15 + 1},
		{impl.Whole - 1, 1<<31 - 1, 1 << 31},
		{impl.Whole, 1 << 31, 1 << 31},
		{impl.Whole + 1, -1, -1},
		{math.MaxInt, -1, -1},
		{-1, -1, -1},
		{-4, -1, -1},
		{math.MinInt, -1, -1},
	}
	for _, c := range cases {
		if root, up := impl.Root(c.n), impl.RootUp(c.n); root != c.root || up != c.up {
			t.Errorf("%d: Root %d, RootUp %d", c.n, root, up)
		}
	}
}

func TestBoundByHand(t *testing.T) {
	cases := []struct{ n, low, high, want int }{
		{4, 3, 5, 4},
		{9, 3, 5, 5},
		{1, 3, 5, 3},
		{3, 3, 5, 3},
		{5, 3, 5, 5},
		{-9, -5, -3, -5},
		{0, -5, -3, -3},
		{7, 2, 2, 2},
		{1, 5, 3, 5},
		{4, 5, 3, 5},
		{9, 5, 3, 5},
		{math.MinInt, math.MinInt, math.MaxInt, math.MinInt},
		{math.MaxInt, math.MinInt, math.MaxInt, math.MaxInt},
		{math.MinInt, impl.One, impl.Far, impl.One},
		{math.MaxInt, impl.One, impl.Far, impl.Far},
		{0, math.MaxInt, math.MinInt, math.MaxInt},
		{math.MinInt, math.MaxInt, math.MinInt, math.MaxInt},
	}
	for _, c := range cases {
		if got := impl.Bound(c.n, c.low, c.high); got != c.want {
			t.Errorf("Bound(%d, %d, %d) = %d, want %d", c.n, c.low, c.high, got, c.want)
		}
	}
}

func TestBoundOfSmallNumbers(t *testing.T) {
	for n := -4; n <= 4; n++ {
		for low := -4; low <= 4; low++ {
			for high := -4; high <= 4; high++ {
				want := n
				if want > high {
					want = high
				}
				if want < low {
					want = low
				}
				if got := impl.Bound(n, low, high); got != want {
					t.Errorf("Bound(%d, %d, %d) = %d, want %d", n, low, high, got, want)
				}
			}
		}
	}
}

// mixed reckons Mix from the chapter's words; big.Int's Div is a floor for divisors above 0.
func mixed(a int, b int, w int) int {
	if !fromTo(a, -impl.Far, impl.Far) || !fromTo(b, -impl.Far, impl.Far) || !fromTo(w, 0, impl.One) {
		return 0
	}
	step := big.NewInt(int64(w))
	step.Mul(step, big.NewInt(int64(b)-int64(a)))
	step.Div(step, big.NewInt(impl.One))
	return a + int(step.Int64())
}

func TestMixOfSmallNumbers(t *testing.T) {
	for a := -9; a <= 9; a++ {
		for b := -9; b <= 9; b++ {
			for w := -1; w <= impl.One+1; w += 17 {
				if got := impl.Mix(a, b, w); got != mixed(a, b, w) {
					t.Errorf("Mix(%d, %d, %d) = %d, want %d", a, b, w, got, mixed(a, b, w))
				}
			}
		}
	}
}

func TestMixAtLimits(t *testing.T) {
	for _, a := range edges() {
		for _, b := range edges() {
			for _, w := range edges() {
				if got := impl.Mix(a, b, w); got != mixed(a, b, w) {
					t.Errorf("Mix(%d, %d, %d) = %d, want %d", a, b, w, got, mixed(a, b, w))
				}
			}
		}
	}
}

func TestMixByHand(t *testing.T) {
	cases := []struct{ a, b, w, want int }{
		{-3, 4, 2048, 0},
		{4, -3, 2048, 0},
		{3, 2, 1, 2},
		{2, 3, 4095, 2},
		{5, 9, 0, 5},
		{5, 9, impl.One, 9},
		{-impl.Far, impl.Far, 2048, 0},
		{-impl.Far, impl.Far, impl.One, impl.Far},
		{impl.Far, -impl.Far, 1, impl.Far - 1<<19},
		{5, 9, -1, 0},
		{5, 9, impl.One + 1, 0},
		{impl.Far + 1, 9, 0, 0},
		{-impl.Far - 1, 9, 0, 0},
		{5, impl.Far + 1, 0, 0},
		{5, -impl.Far - 1, 0, 0},
		{math.MaxInt, 9, 0, 0},
		{5, math.MinInt, 0, 0},
		{5, 9, math.MaxInt, 0},
		{5, 9, math.MinInt, 0},
	}
	for _, c := range cases {
		if got := impl.Mix(c.a, c.b, c.w); got != c.want {
			t.Errorf("Mix(%d, %d, %d) = %d, want %d", c.a, c.b, c.w, got, c.want)
		}
	}
}

// shared deals n out one share after the other: the rounded up share of what is left, and all of it to the last one.
func shared(n int, many int) []int {
	list := []int{}
	for left := n; many > 0; many-- {
		share := left
		if many > 1 {
			share = left / many
			if left%many > 0 {
				share++
			}
		}
		list = append(list, share)
		left -= share
	}
	return list
}

func TestSharesAreDealtOut(t *testing.T) {
	numbers := []int{impl.One - 1, impl.One, impl.One + 1, impl.Far - 1, impl.Far}
	for n := 0; n <= 220; n++ {
		numbers = append(numbers, n)
	}
	for _, n := range numbers {
		for many := 1; many <= 100; many++ {
			got := impl.Shares(n, many)
			if !slices.Equal(got, shared(n, many)) {
				t.Errorf("Shares(%d, %d) = %v", n, many, got)
			}
			sum := 0
			for _, share := range got {
				sum += share
			}
			if sum != n {
				t.Errorf("Shares(%d, %d) are %d together", n, many, sum)
			}
		}
	}
}

func TestSharesByHand(t *testing.T) {
	cases := []struct {
		n, many int
		want    []int
	}{
		{7, 3, []int{3, 2, 2}},
		{0, 1, []int{0}},
		{0, 4, []int{0, 0, 0, 0}},
		{2, 4, []int{1, 1, 0, 0}},
		{9, 1, []int{9}},
		{impl.Far, 1, []int{impl.Far}},
		{impl.Far, 3, []int{357913942, 357913941, 357913941}},
	}
	for _, c := range cases {
		if got := impl.Shares(c.n, c.many); !slices.Equal(got, c.want) {
			t.Errorf("Shares(%d, %d) = %v, want %v", c.n, c.many, got, c.want)
		}
	}
}

func TestSharesOfInvalidNumbers(t *testing.T) {
	cases := [][2]int{
		{-1, 3}, {impl.Far + 1, 3}, {math.MinInt, 3}, {math.MaxInt, 3},
		{7, 0}, {7, -1}, {7, 101}, {7, math.MinInt}, {7, math.MaxInt},
		{0, 0}, {0, 101}, {-1, 0},
	}
	for _, c := range cases {
		if got := impl.Shares(c[0], c[1]); len(got) != 0 {
			t.Errorf("Shares(%d, %d) = %v, want nothing", c[0], c[1], got)
		}
	}
}

func TestSharesAreNewMemory(t *testing.T) {
	a, b := impl.Shares(7, 3), impl.Shares(7, 3)
	whole := a[:cap(a)]
	for i := range whole {
		whole[i] = -1
	}
	if !slices.Equal(b, []int{3, 2, 2}) || !slices.Equal(impl.Shares(7, 3), []int{3, 2, 2}) {
		t.Error("Shares share memory")
	}
}

// commonOf looks for the greatest common divisor one number after the other.
func commonOf(a int, b int) int {
	greatest := 0
	for d := 1; d <= max(a, -a, b, -b); d++ {
		if a%d == 0 && b%d == 0 {
			greatest = d
		}
	}
	return greatest
}

func TestCommonOfSmallNumbers(t *testing.T) {
	for a := -72; a <= 72; a++ {
		for b := -72; b <= 72; b++ {
			if got := impl.Common(a, b); got != commonOf(a, b) {
				t.Errorf("Common(%d, %d) = %d, want %d", a, b, got, commonOf(a, b))
			}
		}
	}
}

func TestCommonAtLimits(t *testing.T) {
	for _, a := range edges() {
		for _, b := range edges() {
			want := 0
			if fromTo(a, -impl.Whole, impl.Whole) && fromTo(b, -impl.Whole, impl.Whole) {
				x, y := big.NewInt(int64(a)), big.NewInt(int64(b))
				want = int(new(big.Int).GCD(nil, nil, x.Abs(x), y.Abs(y)).Int64())
			}
			if got := impl.Common(a, b); got != want {
				t.Errorf("Common(%d, %d) = %d, want %d", a, b, got, want)
			}
		}
	}
}

func TestCommonByHand(t *testing.T) {
	cases := []struct{ a, b, want int }{
		{-12, 18, 6},
		{12, -18, 6},
		{-12, -18, 6},
		{0, 0, 0},
		{0, -5, 5},
		{-5, 0, 5},
		{7, 9, 1},
		{-impl.Whole, 0, impl.Whole},
		{0, impl.Whole, impl.Whole},
		{impl.Whole, -impl.Whole, impl.Whole},
		{impl.Whole, -impl.One, impl.One},
		{impl.Whole + 1, 0, 0},
		{0, -impl.Whole - 1, 0},
		{math.MinInt, math.MinInt, 0},
		{2, math.MaxInt, 0},
	}
	for _, c := range cases {
		if got := impl.Common(c.a, c.b); got != c.want {
			t.Errorf("Common(%d, %d) = %d, want %d", c.a, c.b, got, c.want)
		}
	}
}

func TestLimitsOfNumbers(t *testing.T) {
	if impl.One != 4096 || impl.Far != 1073741824 || impl.Whole != 4611686018427387904 {
		t.Error("One, Far, Whole")
	}
}
