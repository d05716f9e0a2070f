package tests

import (
	"math"
	"math/rand"
	"slices"
	"strconv"
	"strings"
	"testing"

	"loop.example/wholelight/impl"
)

func hue(r int, g int, b int) impl.Hue {
	return impl.Hue{R: r, G: g, B: b}
}

func grey(n int) impl.Hue {
	return hue(n, n, n)
}

// asHue is a vector as a colour, so that parts can be walked over by index.
func asHue(v impl.Vec) impl.Hue {
	return hue(v.X, v.Y, v.Z)
}

func partsOfHue(h impl.Hue) [3]int {
	return [3]int{h.R, h.G, h.B}
}

var black, white = impl.Hue{}, grey(255)

// hueParts are parts of colours, the least and the greatest one among them, and those around a carry of digits.
func hueParts() []int {
	return []int{0, 1, 2, 9, 10, 15, 16, 17, 127, 128, 159, 160, 240, 254, 255}
}

// someHues are colours with all of hueParts in each part, in no order.
func someHues() []impl.Hue {
	list := []impl.Hue{}
	parts := hueParts()
	for i := range parts {
		for j := range parts {
			for k := range 3 {
				list = append(list, hue(parts[i], parts[j], parts[(i+4*j+5*k)%len(parts)]))
			}
		}
	}
	return list
}

// chanceHues are colours by chance.
func chanceHues(source *rand.Rand, many int, most int) []impl.Hue {
	list := make([]impl.Hue, many)
	for i := range list {
		list[i] = hue(source.Intn(most+1), source.Intn(most+1), source.Intn(most+1))
	}
	return list
}

// noHues are not colours by one part each, or by all of them.
func noHues() []impl.Hue {
	list := []impl.Hue{}
	for _, n := range []int{-1, 256, -255, -256, 510, 511, 1 << 16, 1 << 32, -1 << 32, math.MaxInt, math.MinInt} {
		list = append(list, grey(n))
		for part := range 3 {
			list = append(list, asHue(withPart(impl.Vec{}, part, n)), asHue(withPart(vec(255, 255, 255), part, n)), asHue(withPart(vec(7, 8, 9), part, n)))
		}
	}
	return list
}

func TestLimitsOfColours(t *testing.T) {
	if impl.Bright != 255 || impl.MaxHues != 16 {
		t.Errorf("Bright %d, MaxHues %d", impl.Bright, impl.MaxHues)
	}
}

func TestHueOk(t *testing.T) {
	for _, h := range append(someHues(), black, white, hue(255, 0, 0), hue(0, 255, 0), hue(0, 0, 255)) {
		if !impl.HueOk(h) {
			t.Errorf("HueOk(%v) = false", h)
		}
	}
	for n := -300; n <= 600; n++ {
		for part := range 3 {
			if h := asHue(withPart(vec(0, 255, 128), part, n)); impl.HueOk(h) != fromTo(n, 0, 255) {
				t.Errorf("HueOk(%v) = %v", h, impl.HueOk(h))
			}
		}
	}
	for _, h := range noHues() {
		if impl.HueOk(h) {
			t.Errorf("HueOk(%v) = true", h)
		}
	}
}

func TestHueMixByHand(t *testing.T) {
	cases := []struct {
		a, b impl.Hue
		w    int
		want impl.Hue
	}{
		{hue(10, 0, 0), hue(20, 0, 0), 2048, hue(15, 0, 0)},
		{hue(10, 20, 30), hue(20, 40, 60), 1024, hue(12, 25, 37)},
		// Floor of a difference below 0 goes down.
		{hue(20, 40, 60), hue(10, 20, 30), 1024, hue(17, 35, 52)},
		{black, white, 0, black},
		{black, white, 1, black},
		{black, white, 16, black},
		{black, white, 17, grey(1)},
		{black, white, 2048, grey(127)},
		{black, white, 4095, grey(254)},
		{black, white, 4096, white},
		{white, black, 0, white},
		{white, black, 1, grey(254)},
		{white, black, 2048, grey(127)},
		{white, black, 4095, black},
		{white, black, 4096, black},
		{hue(255, 0, 128), hue(0, 255, 128), 2048, hue(127, 127, 128)},
		{hue(7, 8, 9), hue(7, 8, 9), 1234, hue(7, 8, 9)},
		{hue(7, 8, 9), hue(17, 18, 19), 4097, black},
		{hue(7, 8, 9), hue(17, 18, 19), -1, black},
		{hue(7, 8, 9), hue(7, 8, 9), 4097, black},
		{hue(7, 8, 9), hue(17, 18, 19), math.MaxInt, black},
		{hue(7, 8, 9), hue(17, 18, 19), math.MinInt, black},
	}
	for _, c := range cases {
		if got := impl.HueMix(c.a, c.b, c.w); got != c.want {
			t.Errorf("HueMix(%v, %v, %d) = %v, want %v", c.a, c.b, c.w, got, c.want)
		}
	}
}

// checkMixed holds a mixed colour against the two that it lies between: of the way from a to b there is so much as w is of One, rounded down.
func checkMixed(t *testing.T, a impl.Hue, b impl.Hue, w int, got impl.Hue) {
	t.Helper()
	from, to := partsOfHue(a), partsOfHue(b)
	for part, x := range partsOfHue(got) {
		between := fromTo(x, min(from[part], to[part]), max(from[part], to[part]))
		left := w*(to[part]-from[part]) - 4096*(x-from[part])
		if !between || !fromTo(left, 0, 4095) {
			t.Fatalf("HueMix(%v, %v, %d) = %v", a, b, w, got)
		}
	}
}

func TestMixedColoursLieBetween(t *testing.T) {
	source := rand.New(rand.NewSource(9))
	hues := append(someHues(), chanceHues(source, 300, 255)...)
	for i, a := range hues {
		b := hues[(7*i+100)%len(hues)]
		if x, y := impl.HueMix(a, b, 0), impl.HueMix(a, b, 4096); x != a || y != b {
			t.Fatalf("HueMix(%v, %v) from end to end is from %v to %v", a, b, x, y)
		}
		shares := []int{0, 1, 15, 16, 17, 1024, 2047, 2048, 2049, source.Intn(4097), 4080, 4095, 4096}
		slices.Sort(shares)
		before := a
		for _, w := range shares {
			got := impl.HueMix(a, b, w)
			checkMixed(t, a, b, w, got)
			// With more of b it is no farther from b.
			if farBySums(got, b) > farBySums(before, b) {
				t.Fatalf("HueMix(%v, %v, %d) = %v, behind %v", a, b, w, got, before)
			}
			before = got
		}
	}
}

func TestHueTimesByHand(t *testing.T) {
	h := hue(255, 128, 1)
	cases := []struct {
		h    impl.Hue
		w    int
		want impl.Hue
	}{
		{h, 0, black}, {h, 1, black}, {h, 32, hue(1, 1, 0)}, {h, 31, hue(1, 0, 0)},
		{h, 2048, hue(127, 64, 0)}, {h, 4095, hue(254, 127, 0)}, {h, 4096, h}, {h, 4097, hue(255, 128, 1)},
		{h, 8160, hue(255, 255, 1)}, {h, 8159, hue(255, 254, 1)}, {h, 8191, hue(255, 255, 1)}, {h, 8192, hue(255, 255, 2)},
		{hue(1, 2, 3), 4096 * 85, hue(85, 170, 255)}, {hue(1, 2, 3), 4096 * 86, hue(86, 172, 255)},
		{hue(1, 0, 0), 4096*255 - 1, hue(254, 0, 0)}, {hue(1, 0, 0), 4096 * 255, hue(255, 0, 0)},
		{hue(1, 0, 0), impl.MaxLong, hue(255, 0, 0)}, {hue(1, 2, 0), impl.MaxLong - 1, hue(255, 255, 0)},
		{white, impl.MaxLong, white}, {black, impl.MaxLong, black}, {white, 2048, grey(127)},
		{h, impl.MaxLong + 1, black}, {h, -1, black}, {h, -4096, black},
		{h, math.MaxInt, black}, {h, math.MinInt, black}, {h, 1 << 60, black},
	}
	for _, c := range cases {
		if got := impl.HueTimes(c.h, c.w); got != c.want {
			t.Errorf("HueTimes(%v, %d) = %v, want %v", c.h, c.w, got, c.want)
		}
	}
}

func TestHueTimesOfAllParts(t *testing.T) {
	for n := range 256 {
		h := hue(n, 255-n, n/2)
		for _, w := range []int{0, 1, 17, 1000, 2048, 4095, 4096, 4097, 5000, 8192, 40000, 4096*255 - 1, 4096 * 255, impl.MaxLong - 1, impl.MaxLong} {
			x := partsOfHue(impl.HueTimes(h, w))
			for part, from := range partsOfHue(h) {
				// It is the greatest number that is not above the product, or Bright below that.
				full := 4096*(x[part]+1) > from*w || x[part] == 255
				if !fromTo(x[part], 0, 255) || 4096*x[part] > from*w || !full {
					t.Fatalf("HueTimes(%v, %d) = %v", h, w, x)
				}
			}
		}
	}
}

func TestSumsAndProductsOfColoursByHand(t *testing.T) {
	h := hue(255, 128, 0)
	cases := []struct{ a, b, plus, through impl.Hue }{
		{h, h, hue(255, 255, 0), hue(255, 64, 0)},
		{black, black, black, black},
		{black, white, white, black},
		{white, white, white, white},
		{h, black, h, black},
		{h, white, white, h},
		{hue(1, 127, 200), hue(254, 128, 56), white, hue(0, 63, 43)},
		{hue(1, 127, 200), hue(253, 128, 54), hue(254, 255, 254), hue(0, 63, 42)},
		{hue(15, 16, 17), hue(17, 16, 15), grey(32), hue(1, 1, 1)},
		{hue(1, 1, 1), hue(255, 254, 1), hue(255, 255, 2), hue(1, 0, 0)},
		{grey(254), grey(254), white, grey(253)},
	}
	for _, c := range cases {
		for _, pair := range [][2]impl.Hue{{c.a, c.b}, {c.b, c.a}} {
			if got := impl.HuePlus(pair[0], pair[1]); got != c.plus {
				t.Errorf("HuePlus(%v, %v) = %v, want %v", pair[0], pair[1], got, c.plus)
			}
			if got := impl.HueThrough(pair[0], pair[1]); got != c.through {
				t.Errorf("HueThrough(%v, %v) = %v, want %v", pair[0], pair[1], got, c.through)
			}
		}
	}
}

func TestSumsAndProductsOfAllParts(t *testing.T) {
	for x := range 256 {
		for y := range 256 {
			a, b := hue(x, y, 255-x), hue(y, 255-x, x)
			plus, through := partsOfHue(impl.HuePlus(a, b)), partsOfHue(impl.HueThrough(a, b))
			for part, p := range partsOfHue(a) {
				q := partsOfHue(b)[part]
				if sum := p + q; plus[part] != sum && (sum <= 255 || plus[part] != 255) {
					t.Fatalf("HuePlus(%v, %v) = %v", a, b, plus)
				}
				if left := p*q - 255*through[part]; !fromTo(left, 0, 254) {
					t.Fatalf("HueThrough(%v, %v) = %v", a, b, through)
				}
			}
		}
	}
}

func TestHueFarByHand(t *testing.T) {
	cases := []struct {
		a, b impl.Hue
		want int
	}{
		{black, black, 0}, {white, white, 0}, {hue(7, 8, 9), hue(7, 8, 9), 0},
		{black, hue(1, 0, 0), 2}, {black, hue(0, 1, 0), 4}, {black, hue(0, 0, 1), 1},
		{black, hue(255, 0, 0), 130050}, {black, hue(0, 255, 0), 260100}, {black, hue(0, 0, 255), 65025},
		{black, white, 455175}, {hue(1, 2, 3), hue(4, 6, 8), 18 + 64 + 25}, {hue(4, 2, 8), hue(1, 6, 3), 18 + 64 + 25},
	}
	for _, c := range cases {
		if x, y := impl.HueFar(c.a, c.b), impl.HueFar(c.b, c.a); x != c.want || y != c.want {
			t.Errorf("HueFar(%v, %v) = %d, the other way %d, want %d", c.a, c.b, x, y, c.want)
		}
	}
}

// farBySums is how far two colours are apart, with products as sums.
func farBySums(a impl.Hue, b impl.Hue) int {
	sum := 0
	for part, times := range []int{2, 4, 1} {
		x, y := partsOfHue(a)[part], partsOfHue(b)[part]
		step := max(x, y) - min(x, y)
		for range times * step {
			sum += step
		}
	}
	return sum
}

func TestHueFarAgainstSums(t *testing.T) {
	hues := someHues()
	for i, a := range hues {
		b := hues[(11*i+3)%len(hues)]
		if got := impl.HueFar(a, b); got != farBySums(a, b) {
			t.Errorf("HueFar(%v, %v) = %d, want %d", a, b, got, farBySums(a, b))
		}
	}
}

func TestHueGrey(t *testing.T) {
	cases := []struct {
		h    impl.Hue
		want int
	}{
		{hue(255, 128, 0), 143}, {black, 0}, {white, 255}, {hue(255, 0, 0), 63}, {hue(0, 255, 0), 159}, {hue(0, 0, 255), 31},
		{hue(0, 0, 7), 0}, {hue(0, 0, 8), 1}, {hue(3, 0, 1), 0}, {hue(3, 0, 2), 1}, {hue(0, 1, 2), 0}, {hue(0, 1, 3), 1}, {hue(1, 1, 1), 1}, {hue(254, 255, 255), 254},
	}
	for _, c := range cases {
		if got := impl.HueGrey(c.h); got != c.want {
			t.Errorf("HueGrey(%v) = %d, want %d", c.h, got, c.want)
		}
	}
	for n := range 256 {
		if got := impl.HueGrey(grey(n)); got != n {
			t.Errorf("HueGrey(%v) = %d", grey(n), got)
		}
	}
	for _, h := range someHues() {
		if got := impl.HueGrey(h); !fromTo(2*h.R+5*h.G+h.B-8*got, 0, 7) {
			t.Errorf("HueGrey(%v) = %d", h, got)
		}
	}
}

func TestNoColoursHaveNothing(t *testing.T) {
	h := hue(7, 8, 9)
	for _, none := range noHues() {
		for _, pair := range [][2]impl.Hue{{none, h}, {h, none}, {none, none}, {none, black}, {white, none}} {
			a, b := pair[0], pair[1]
			for _, w := range []int{0, 2048, 4096, -1, 4097} {
				if got := impl.HueMix(a, b, w); got != black {
					t.Errorf("HueMix(%v, %v, %d) = %v", a, b, w, got)
				}
			}
			plus, through, far := impl.HuePlus(a, b), impl.HueThrough(a, b), impl.HueFar(a, b)
			if plus != black || through != black || far != -1 {
				t.Errorf("%v and %v: HuePlus %v, HueThrough %v, HueFar %d", a, b, plus, through, far)
			}
		}
		for _, w := range []int{0, 1, 4096, impl.MaxLong, -1} {
			if got := impl.HueTimes(none, w); got != black {
				t.Errorf("HueTimes(%v, %d) = %v", none, w, got)
			}
		}
		if impl.HueGrey(none) != -1 || impl.HueText(none) != "" {
			t.Errorf("%v: HueGrey %d, HueText %q", none, impl.HueGrey(none), impl.HueText(none))
		}
	}
	for _, w := range append(beyond(impl.One), beyond(impl.MaxLong)...) {
		if got := impl.HueMix(h, white, w); got != black {
			t.Errorf("HueMix by %d = %v", w, got)
		}
	}
	for _, w := range beyond(impl.MaxLong) {
		if got := impl.HueTimes(h, w); got != black {
			t.Errorf("HueTimes by %d = %v", w, got)
		}
	}
}

func TestHueNearByHand(t *testing.T) {
	h := hue(255, 128, 0)
	greys := make([]impl.Hue, 17)
	for i := range greys {
		greys[i] = grey(15 * i)
	}
	cases := []struct {
		name string
		list []impl.Hue
		h    impl.Hue
		want int
	}{
		{"none", nil, h, -1},
		{"none, but not nil", []impl.Hue{}, h, -1},
		{"one", []impl.Hue{white}, black, 0},
		{"itself alone", []impl.Hue{h}, h, 0},
		{"equal ones", []impl.Hue{black, hue(200, 0, 0), hue(200, 0, 0)}, h, 1},
		{"all equal", []impl.Hue{white, white, white}, black, 0},
		{"all equal to it", []impl.Hue{h, h, h, h}, h, 0},
		{"the last one", []impl.Hue{black, white, hue(254, 128, 0)}, h, 2},
		{"as far below and above", []impl.Hue{grey(12), grey(8)}, grey(10), 0},
		{"as far by other parts", []impl.Hue{hue(2, 0, 0), hue(0, 1, 2), hue(0, 0, 3), hue(0, 0, 2), hue(0, 1, 0)}, black, 3},
		{"green counts most", []impl.Hue{hue(0, 2, 0), hue(2, 0, 0)}, black, 1},
		{"blue counts least", []impl.Hue{hue(2, 0, 0), hue(0, 0, 2)}, black, 1},
		{"great parts", []impl.Hue{white, hue(0, 0, 255)}, black, 1},
		{"16", greys[:16], grey(225), 15},
		{"16, the first of them", greys[:16], black, 0},
		{"16 equal ones", slices.Repeat([]impl.Hue{h}, 16), black, 0},
		{"17", greys, grey(225), -1},
		{"17 equal ones", slices.Repeat([]impl.Hue{h}, 17), h, -1},
		{"many more", slices.Repeat([]impl.Hue{h}, 1000), h, -1},
	}
	for _, c := range cases {
		if got := impl.HueNear(c.list, c.h); got != c.want {
			t.Errorf("%s: HueNear(%v, %v) = %d, want %d", c.name, c.list, c.h, got, c.want)
		}
	}
}

func TestHueNearOfNoColours(t *testing.T) {
	h := hue(7, 8, 9)
	for _, none := range noHues() {
		for _, list := range [][]impl.Hue{nil, {h}, {black, h, white}} {
			if got := impl.HueNear(list, none); got != -1 {
				t.Errorf("HueNear(%v, %v) = %d", list, none, got)
			}
		}
		// One that is none counts wherever it stands, behind the nearest colour too.
		for at := range 16 {
			list := slices.Repeat([]impl.Hue{h}, 16)
			list[at] = none
			if got := impl.HueNear(list, h); got != -1 {
				t.Errorf("HueNear(%v, %v) = %d", list, h, got)
			}
		}
		if got := impl.HueNear([]impl.Hue{none}, none); got != -1 {
			t.Errorf("HueNear of %v alone = %d", none, got)
		}
	}
}

func TestNoOtherColourIsNearer(t *testing.T) {
	source := rand.New(rand.NewSource(99))
	ties := 0
	for round := range 4000 {
		// Few colours in all make many that are as near as others.
		most := []int{255, 3, 1}[round%3]
		room := chanceHues(source, 20, most)
		list, h := room[:1+source.Intn(16)], chanceHues(source, 1, most)[0]
		before := slices.Clone(room)
		got := impl.HueNear(list, h)
		if !fromTo(got, 0, len(list)-1) {
			t.Fatalf("HueNear(%v, %v) = %d", list, h, got)
		}
		for i, other := range list {
			near, far := farBySums(list[got], h), farBySums(other, h)
			if far < near || i < got && far == near {
				t.Fatalf("HueNear(%v, %v) = %d, not %d", list, h, got, i)
			}
			if i > got && far == near {
				ties++
			}
		}
		if !slices.Equal(room, before) {
			t.Fatalf("%v has become %v", before, room)
		}
	}
	if ties < 1000 {
		t.Errorf("only %d colours are as near", ties)
	}
}

func TestHueTextByHand(t *testing.T) {
	cases := []struct {
		h    impl.Hue
		want string
	}{
		{hue(255, 128, 0), "ff8000"}, {black, "000000"}, {white, "ffffff"},
		{hue(1, 2, 3), "010203"}, {hue(9, 10, 15), "090a0f"}, {hue(16, 17, 31), "10111f"},
		{hue(0x12, 0x34, 0x56), "123456"}, {hue(0x78, 0x9a, 0xbc), "789abc"}, {hue(0xde, 0xf0, 0x0d), "def00d"},
		{hue(255, 0, 0), "ff0000"}, {hue(0, 255, 0), "00ff00"}, {hue(0, 0, 255), "0000ff"}, {hue(0, 0, 10), "00000a"},
	}
	for _, c := range cases {
		if got := impl.HueText(c.h); got != c.want {
			t.Errorf("HueText(%v) = %q, want %q", c.h, got, c.want)
		}
		if got, ok := impl.HueRead(c.want); !ok || got != c.h {
			t.Errorf("HueRead(%q) = %v, %v, want %v", c.want, got, ok, c.h)
		}
	}
}

// checkText holds the text of a colour against its parts in digits of sixteen, and reads it back.
func checkText(t *testing.T, h impl.Hue) {
	t.Helper()
	text := impl.HueText(h)
	// A digit 1 ahead of all keeps the zeros.
	if want := strconv.FormatInt(int64(1<<24+h.R<<16+h.G<<8+h.B), 16)[1:]; text != want {
		t.Errorf("HueText(%v) = %q, want %q", h, text, want)
	}
	if got, ok := impl.HueRead(text); !ok || got != h {
		t.Errorf("HueRead(%q) = %v, %v, want %v", text, got, ok, h)
	}
}

func TestColoursComeBackFromTheirText(t *testing.T) {
	for n := range 256 {
		for part := range 3 {
			for _, around := range []int{0, 10, 77, 255} {
				checkText(t, asHue(withPart(vec(around, 255-around, around), part, n)))
			}
		}
		checkText(t, grey(n))
	}
	for _, h := range append(someHues(), chanceHues(rand.New(rand.NewSource(999)), 5000, 255)...) {
		checkText(t, h)
	}
}

func TestTextsComeBackFromTheirColours(t *testing.T) {
	// Each byte in each place: only small digits make the text of a colour.
	for at := range 6 {
		for b := range 256 {
			bytes := []byte("07a9f3")
			bytes[at] = byte(b)
			text := string(bytes)
			h, ok := impl.HueRead(text)
			if want := strings.IndexByte("0123456789abcdef", byte(b)) >= 0; ok != want {
				t.Errorf("HueRead(%q) = %v, %v", text, h, ok)
			}
			if ok && impl.HueText(h) != text || !ok && h != black {
				t.Errorf("HueRead(%q) = %v, %v", text, h, ok)
			}
		}
	}
}

func TestHueReadOfOtherTexts(t *testing.T) {
	texts := []string{
		"", "f", "ff", "fff", "ff800", "ff80000", "ff8000ff", "ff8000 ", " ff8000", "ff8000\n", "\nff8000", "ff8000\x00", "\x00ff8000",
		"FF8000", "Ff8000", "fF8000", "ff8O00", "00000A", "ABCDEF", "abcdeF", "ff800g", "gf8000", "ff80 0", "ff 800", "ff80-1", "-f8000", "+f8000", "ff800.",
		"#ff8000", "#ff800", "0xff80", "0Xff80", "0xff8000", "ff_800", "ff8_00", "255 128 0", "ff 80 00", "1e+100",
		// As many bytes, or as many letters, but no digits of sixteen.
		"\xff\x80\x00", "\xff\xff\xff\xff\xff\xff", "ääö", "ä0000", "00000ä", "００００００", "ｆｆ", "\x00\x00\x00\x00\x00\x00", "٠٠٠", "      ",
		strings.Repeat("f", 5), strings.Repeat("f", 7), strings.Repeat("0", 12), strings.Repeat("0", 100000),
	}
	for _, text := range texts {
		if got, ok := impl.HueRead(text); ok || got != black {
			t.Errorf("HueRead(%q) = %v, %v", text, got, ok)
		}
	}
}
