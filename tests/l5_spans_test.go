package tests

import (
	"math"
	"math/rand"
	"slices"
	"testing"

	"loop.example/wholelight/impl"
)

func span(from int, to int, in int, out int) impl.Span {
	return impl.Span{From: from, To: to, In: in, Out: out}
}

// comb is many spans of a length, at equal distances, each with surfaces of its own.
func comb(many int, from int, step int, long int) []impl.Span {
	list := []impl.Span{}
	for i := range many {
		list = append(list, span(from+i*step, from+i*step+long, i+1, -i-2))
	}
	return list
}

// spansOf are the spans of the parts that are marked, from base on, with surfaces counted from first.
func spansOf(marks []bool, base int, first int) []impl.Span {
	list := []impl.Span{}
	for i, marked := range marks {
		switch {
		case marked && (i == 0 || !marks[i-1]):
			list = append(list, span(base+i, base+i+1, first, first+1))
			first += 2
		case marked:
			list[len(list)-1].To++
		}
	}
	return list
}

// marksOf marks the parts whose digits are 1 where a number is written in twos.
func marksOf(digits int, many int) []bool {
	marks := make([]bool, many)
	for i := range marks {
		marks[i] = digits>>i&1 == 1
	}
	return marks
}

// noSpans are lists that are no spans, each by one fault.
func noSpans() [][]impl.Span {
	lists := [][]impl.Span{
		comb(impl.MaxSpans+1, 0, 4, 2), comb(2*impl.MaxSpans, 0, 4, 2),
		{span(3, 3, 1, 2)}, {span(4, 3, 1, 2)}, {{}}, {span(impl.Far, -impl.Far, 1, 2)}, {span(-5, 5, 1, 2), {}},
		{span(0, 3, 1, 2), span(3, 5, 3, 4)}, {span(0, 3, 1, 2), span(2, 5, 3, 4)}, {span(0, 9, 1, 2), span(2, 5, 3, 4)},
		{span(0, 3, 1, 2), span(0, 3, 1, 2)}, {span(6, 9, 1, 2), span(0, 3, 3, 4)}, {span(0, 3, 1, 2), span(5, 5, 3, 4)},
		{span(0, 3, 1, 2), span(5, 7, 3, 4), span(7, 9, 5, 6)}, {span(0, 3, 1, 2), span(5, 7, 3, 4), span(9, 8, 5, 6)},
	}
	for _, n := range append(beyond(impl.Far), impl.Whole, -impl.Whole) {
		from, to := min(n, 0), max(n, 0)
		lists = append(lists, []impl.Span{span(from, to, 1, 2)})
	}
	for _, n := range append(beyond(impl.MaxSurface), impl.Far, -impl.Far) {
		lists = append(lists, []impl.Span{span(0, 9, n, 2)}, []impl.Span{span(0, 9, 1, n)}, []impl.Span{span(-3, -1, 1, 2), span(0, 9, n, 2)}, []impl.Span{span(-3, -1, 1, n), span(0, 9, 1, 2)})
	}
	return lists
}

func TestLimitsOfSpans(t *testing.T) {
	if impl.MaxSpans != 200 || impl.MaxSurface != 1000 {
		t.Errorf("MaxSpans %d, MaxSurface %d", impl.MaxSpans, impl.MaxSurface)
	}
}

func TestSpansOk(t *testing.T) {
	far := impl.Far
	lists := [][]impl.Span{
		nil, {}, {span(0, 1, 0, 0)}, {span(-far, far, 1000, -1000)}, {span(-far, 0, -1000, 1000), span(1, far, 0, 0)},
		{span(-far, 1-far, 5, 5), span(far-1, far, 5, 5)}, {span(0, 3, 1, 2), span(4, 5, 1, 2)}, {span(-9, -7, 0, 0), span(-6, -5, 0, 0), span(100, 200, 0, 0)},
		comb(199, 0, 2, 1), comb(200, 0, 2, 1), comb(200, -far, 5, 4), comb(200, far-599, 3, 2),
	}
	for _, list := range lists {
		if !impl.SpansOk(list) {
			t.Errorf("SpansOk(%v) = false", list)
		}
	}
	for _, list := range noSpans() {
		if impl.SpansOk(list) {
			t.Errorf("SpansOk(%v) = true", list)
		}
	}
	if last := comb(200, far-599, 3, 2); last[199].To != far || impl.SpansOk(comb(200, far-598, 3, 2)) || impl.SpansOk(comb(200, -far-1, 3, 2)) {
		t.Error("SpansOk of spans that reach beyond Far")
	}
}

// madeCase is what should be made of two lists in each of the three ways.
type madeCase struct {
	name               string
	a, b               []impl.Span
	both, either, less []impl.Span
}

func checkCases(t *testing.T, cases []madeCase) {
	t.Helper()
	for _, c := range cases {
		if got := impl.SpansBoth(c.a, c.b); !slices.Equal(got, c.both) {
			t.Errorf("%s: SpansBoth = %v, want %v", c.name, got, c.both)
		}
		if got := impl.SpansEither(c.a, c.b); !slices.Equal(got, c.either) {
			t.Errorf("%s: SpansEither = %v, want %v", c.name, got, c.either)
		}
		if got := impl.SpansLess(c.a, c.b); !slices.Equal(got, c.less) {
			t.Errorf("%s: SpansLess = %v, want %v", c.name, got, c.less)
		}
	}
}

func TestSpansThatShareParts(t *testing.T) {
	checkCases(t, []madeCase{
		{
			"one in the other", []impl.Span{span(0, 9, 1, 2)}, []impl.Span{span(3, 5, 3, 4)},
			[]impl.Span{span(3, 5, 3, 4)}, []impl.Span{span(0, 9, 1, 2)}, []impl.Span{span(0, 3, 1, -3), span(5, 9, -4, 2)},
		},
		{
			"one around the other", []impl.Span{span(3, 5, 3, 4)}, []impl.Span{span(0, 9, 1, 2)},
			[]impl.Span{span(3, 5, 3, 4)}, []impl.Span{span(0, 9, 1, 2)}, nil,
		},
		{
			"they cross", []impl.Span{span(0, 5, 1, 2)}, []impl.Span{span(3, 9, 3, 4)},
			[]impl.Span{span(3, 5, 3, 2)}, []impl.Span{span(0, 9, 1, 4)}, []impl.Span{span(0, 3, 1, -3)},
		},
		{
			"they cross the other way", []impl.Span{span(3, 9, 1, 2)}, []impl.Span{span(0, 5, 3, 4)},
			[]impl.Span{span(3, 5, 1, 4)}, []impl.Span{span(0, 9, 3, 2)}, []impl.Span{span(5, 9, -4, 2)},
		},
		{
			"one over many", []impl.Span{span(0, 20, 0, -9)}, []impl.Span{span(-5, 2, 1, 2), span(4, 6, 0, 0), span(19, 25, -5, -6)},
			[]impl.Span{span(0, 2, 0, 2), span(4, 6, 0, 0), span(19, 20, -5, -9)}, []impl.Span{span(-5, 25, 1, -6)}, []impl.Span{span(2, 4, -2, 0), span(6, 19, 0, 5)},
		},
		{
			"some are cut away", []impl.Span{span(0, 3, 1, 2), span(5, 9, 3, 4), span(12, 15, 5, 6)}, []impl.Span{span(-1, 3, 11, 12), span(4, 9, 13, 14), span(12, 20, 15, 16)},
			[]impl.Span{span(0, 3, 1, 2), span(5, 9, 3, 4), span(12, 15, 5, 6)}, []impl.Span{span(-1, 3, 11, 2), span(4, 9, 13, 4), span(12, 20, 5, 16)}, nil,
		},
	})
}

func TestSpansWithTheSameEnds(t *testing.T) {
	checkCases(t, []madeCase{
		{
			"the same", []impl.Span{span(3, 5, 1, 2)}, []impl.Span{span(3, 5, 3, 4)},
			[]impl.Span{span(3, 5, 1, 2)}, []impl.Span{span(3, 5, 1, 2)}, nil,
		},
		{
			"the same beginning, b longer", []impl.Span{span(3, 5, 1, 2)}, []impl.Span{span(3, 8, 3, 4)},
			[]impl.Span{span(3, 5, 1, 2)}, []impl.Span{span(3, 8, 1, 4)}, nil,
		},
		{
			"the same beginning, a longer", []impl.Span{span(3, 8, 1, 2)}, []impl.Span{span(3, 5, 3, 4)},
			[]impl.Span{span(3, 5, 1, 4)}, []impl.Span{span(3, 8, 1, 2)}, []impl.Span{span(5, 8, -4, 2)},
		},
		{
			"the same end, a longer", []impl.Span{span(3, 8, 1, 2)}, []impl.Span{span(5, 8, 3, 4)},
			[]impl.Span{span(5, 8, 3, 2)}, []impl.Span{span(3, 8, 1, 2)}, []impl.Span{span(3, 5, 1, -3)},
		},
		{
			"the same end, b longer", []impl.Span{span(5, 8, 1, 2)}, []impl.Span{span(3, 8, 3, 4)},
			[]impl.Span{span(5, 8, 1, 2)}, []impl.Span{span(3, 8, 3, 2)}, nil,
		},
	})
}

func TestSpansThatTouchOrAreApart(t *testing.T) {
	checkCases(t, []madeCase{
		{"none", nil, nil, nil, nil, nil},
		{"none in b", comb(2, 0, 9, 3), nil, nil, comb(2, 0, 9, 3), comb(2, 0, 9, 3)},
		{"none in a", nil, comb(2, 0, 9, 3), nil, comb(2, 0, 9, 3), nil},
		{
			"apart", []impl.Span{span(0, 3, 1, 2)}, []impl.Span{span(4, 6, 3, 4)},
			nil, []impl.Span{span(0, 3, 1, 2), span(4, 6, 3, 4)}, []impl.Span{span(0, 3, 1, 2)},
		},
		{
			"b touches behind", []impl.Span{span(0, 3, 1, 2)}, []impl.Span{span(3, 5, 3, 4)},
			nil, []impl.Span{span(0, 5, 1, 4)}, []impl.Span{span(0, 3, 1, 2)},
		},
		{
			"b touches ahead", []impl.Span{span(3, 5, 1, 2)}, []impl.Span{span(0, 3, 3, 4)},
			nil, []impl.Span{span(0, 5, 3, 2)}, []impl.Span{span(3, 5, 1, 2)},
		},
		{
			"b fills the gap", []impl.Span{span(0, 3, 1, 2), span(5, 9, 3, 4)}, []impl.Span{span(3, 5, 5, 6)},
			nil, []impl.Span{span(0, 9, 1, 4)}, []impl.Span{span(0, 3, 1, 2), span(5, 9, 3, 4)},
		},
	})
}

func TestSpansToTheEnds(t *testing.T) {
	far := impl.Far
	whole := []impl.Span{span(-far, far, 7, 8)}
	checkCases(t, []madeCase{
		{
			"to the ends", whole, []impl.Span{span(-far, 0, 1, -2), span(5, far, 3, 4)},
			[]impl.Span{span(-far, 0, 7, -2), span(5, far, 3, 8)}, whole, []impl.Span{span(0, 5, 2, -3)},
		},
		{
			"from the ends", []impl.Span{span(-far, 0, 1, -2), span(5, far, 3, 4)}, whole,
			[]impl.Span{span(-far, 0, 1, -2), span(5, far, 3, 4)}, []impl.Span{span(-far, far, 1, 4)}, nil,
		},
		{
			"less the last parts", whole, []impl.Span{span(1-far, far-1, -1000, 1000)},
			[]impl.Span{span(1-far, far-1, -1000, 1000)}, whole, []impl.Span{span(-far, 1-far, 7, 1000), span(far-1, far, -1000, 8)},
		},
	})
}

// making is one of the three ways to make spans of two lists, with the parts that what it makes should have.
type making struct {
	name string
	of   func(a []impl.Span, b []impl.Span) []impl.Span
	has  func(a bool, b bool) bool
	less bool
}

func makings() []making {
	return []making{
		{"SpansBoth", impl.SpansBoth, func(a bool, b bool) bool { return a && b }, false},
		{"SpansEither", impl.SpansEither, func(a bool, b bool) bool { return a || b }, false},
		{"SpansLess", impl.SpansLess, func(a bool, b bool) bool { return a && !b }, true},
	}
}

// surfaceIn looks up the surface by which one comes in at a part, as the chapter tells it.
func surfaceIn(m making, a []impl.Span, b []impl.Span, at int) int {
	for _, s := range a {
		if s.From == at {
			return s.In
		}
	}
	for _, s := range b {
		if m.less && s.To == at {
			return -s.Out
		}
		if !m.less && s.From == at {
			return s.In
		}
	}
	return math.MaxInt
}

// surfaceOut looks up the surface by which one goes out at a part.
func surfaceOut(m making, a []impl.Span, b []impl.Span, at int) int {
	for _, s := range a {
		if s.To == at {
			return s.Out
		}
	}
	for _, s := range b {
		if m.less && s.From == at {
			return -s.In
		}
		if !m.less && s.To == at {
			return s.Out
		}
	}
	return math.MaxInt
}

// checkMade holds what is made of two lists against their marks, part by part.
func checkMade(t *testing.T, m making, base int, marksA []bool, marksB []bool) {
	t.Helper()
	a, b := spansOf(marksA, base, 1), spansOf(marksB, base, 501)
	marks := make([]bool, len(marksA))
	for i := range marks {
		marks[i] = m.has(marksA[i], marksB[i])
	}
	want := spansOf(marks, base, 0)
	for i, s := range want {
		want[i].In, want[i].Out = surfaceIn(m, a, b, s.From), surfaceOut(m, a, b, s.To)
	}
	if len(want) > impl.MaxSpans {
		want = nil
	}
	keptA, keptB := slices.Clone(a), slices.Clone(b)
	got := m.of(a, b)
	if !slices.Equal(got, want) || !impl.SpansOk(got) {
		t.Fatalf("%s(%v, %v) = %v, want %v", m.name, a, b, got, want)
	}
	if !slices.Equal(a, keptA) || !slices.Equal(b, keptB) {
		t.Fatalf("%s has changed its arguments %v and %v", m.name, keptA, keptB)
	}
}

func TestAllShortSpansHaveTheRightParts(t *testing.T) {
	const many = 7
	for _, base := range []int{-3, -impl.Far, impl.Far - many} {
		for digits := range 1 << (2 * many) {
			for _, m := range makings() {
				checkMade(t, m, base, marksOf(digits, many), marksOf(digits>>many, many))
			}
		}
	}
}

func TestLongSpansHaveTheRightParts(t *testing.T) {
	source := rand.New(rand.NewSource(5))
	// Marks that change from part to part more or less often make few spans, or nearly too many.
	for _, often := range []int{2, 3, 5, 20, 100} {
		for range 60 {
			marksA, marksB := someMarks(source, often, 600), someMarks(source, often, 600)
			for _, m := range makings() {
				checkMade(t, m, -300, marksA, marksB)
			}
		}
	}
}

// someMarks marks parts by chance, as many as make at most MaxSpans spans.
func someMarks(source *rand.Rand, often int, many int) []bool {
	marks := make([]bool, many)
	spans := 0
	for i := 1; i < many; i++ {
		marks[i] = marks[i-1] != (source.Intn(often) == 0)
		if marks[i] && !marks[i-1] {
			spans++
		}
		if spans > impl.MaxSpans {
			marks[i] = false
		}
	}
	return marks
}

func TestSpansThatAreTooMany(t *testing.T) {
	far := impl.Far
	all, whole := comb(200, 0, 10, 6), []impl.Span{span(-far, far, 7, 8)}
	cases := []struct {
		name string
		got  []impl.Span
		many int
	}{
		{"both, all", impl.SpansBoth(all, whole), 200},
		{"both, all the other way", impl.SpansBoth(whole, all), 200},
		{"both, one split, one left out", impl.SpansBoth(all, []impl.Span{span(-5, 2, 1, 2), span(4, 1990, 3, 4)}), 200},
		{"both, one split", impl.SpansBoth(all, []impl.Span{span(-5, 2, 1, 2), span(4, 1991, 3, 4)}), 0},
		{"both, the last one split", impl.SpansBoth([]impl.Span{span(-5, 1992, 1, 2), span(1994, 1995, 3, 4)}, all), 0},
		{"both, nearly each one split", impl.SpansBoth(all, comb(200, 3, 10, 8)), 0},
		{"either, all", impl.SpansEither(all, all), 200},
		{"either, in gaps", impl.SpansEither(all[:100], comb(100, 7, 10, 2)), 200},
		{"either, one more", impl.SpansEither(all[:101], comb(100, 7, 10, 2)), 0},
		{"either, one more in b", impl.SpansEither(comb(100, 7, 10, 2), all[:101]), 0},
		{"either, one more that touches", impl.SpansEither(all, []impl.Span{span(-5, 0, 1, 2)}), 200},
		{"either, one more ahead", impl.SpansEither(all, []impl.Span{span(-5, -1, 1, 2)}), 0},
		{"either, one more behind", impl.SpansEither(all, []impl.Span{span(1997, 1999, 1, 2)}), 0},
		{"either, gaps filled", impl.SpansEither(all, comb(200, 6, 10, 4)), 1},
		{"either, far too many", impl.SpansEither(all, comb(200, 7, 10, 2)), 0},
		{"less, 199", impl.SpansLess(whole, all[:199]), 200},
		{"less, 200", impl.SpansLess(whole, all), 0},
		{"less, the first one at the end", impl.SpansLess([]impl.Span{span(0, far, 7, 8)}, all), 200},
		{"less, the last one at the end", impl.SpansLess([]impl.Span{span(-far, 1996, 7, 8)}, all), 200},
		{"less, none", impl.SpansLess(all, nil), 200},
		{"less, one split", impl.SpansLess(all, []impl.Span{span(2, 3, 1, 2)}), 0},
		{"less, one split, one cut away", impl.SpansLess(all, []impl.Span{span(2, 3, 1, 2), span(10, 16, 3, 4)}), 200},
		{"less, each one split", impl.SpansLess(all, comb(200, 2, 10, 2)), 0},
	}
	for _, c := range cases {
		if len(c.got) != c.many || !impl.SpansOk(c.got) {
			t.Errorf("%s: %d spans, want %d", c.name, len(c.got), c.many)
		}
	}
}

func TestWhatIsMadeOfNoSpans(t *testing.T) {
	lists := [][]impl.Span{nil, comb(1, 0, 10, 9), comb(3, -1, 5, 2), {span(-impl.Far, impl.Far, 1, 2)}}
	for _, none := range noSpans() {
		for _, m := range makings() {
			for _, list := range lists {
				if a, b := m.of(none, list), m.of(list, none); len(a) != 0 || len(b) != 0 {
					t.Errorf("%s of %v and no spans %v = %v, %v", m.name, list, none, a, b)
				}
			}
			if got := m.of(none, none); len(got) != 0 {
				t.Errorf("%s of no spans %v twice = %v", m.name, none, got)
			}
		}
	}
}

func TestRulesOfSpans(t *testing.T) {
	for digits := range 1 << 12 {
		a, b, c := spansOf(marksOf(digits, 4), 0, 1), spansOf(marksOf(digits>>4, 4), 0, 101), spansOf(marksOf(digits>>8, 4), 0, 201)
		if impl.SpansLong(a)+impl.SpansLong(b) != impl.SpansLong(impl.SpansBoth(a, b))+impl.SpansLong(impl.SpansEither(a, b)) {
			t.Fatalf("%v and %v are not as long as what is in both and in either", a, b)
		}
		if got := impl.SpansEither(impl.SpansLess(a, b), impl.SpansBoth(a, b)); !sameParts(got, a) {
			t.Fatalf("%v less %v, and both, are %v", a, b, got)
		}
		if x, y := impl.SpansLess(a, impl.SpansEither(b, c)), impl.SpansLess(impl.SpansLess(a, b), c); !sameParts(x, y) {
			t.Fatalf("%v less %v and %v: %v, one behind the other %v", a, b, c, x, y)
		}
		if x, y := impl.SpansBoth(a, impl.SpansEither(b, c)), impl.SpansEither(impl.SpansBoth(a, b), impl.SpansBoth(a, c)); !sameParts(x, y) {
			t.Fatalf("%v with %v or %v: %v, each with each %v", a, b, c, x, y)
		}
	}
}

// sameParts reports whether two lists have the same parts, whatever their surfaces.
func sameParts(a []impl.Span, b []impl.Span) bool {
	return slices.EqualFunc(a, b, func(x impl.Span, y impl.Span) bool { return x.From == y.From && x.To == y.To })
}

func TestSpansAtByHand(t *testing.T) {
	far := impl.Far
	three := []impl.Span{span(-far, -5, 1, 2), span(0, 9, 3, 4), span(10, far, 5, 6)}
	cases := []struct {
		list []impl.Span
		t    int
		want int
	}{
		{three, -far, 0}, {three, -6, 0}, {three, -5, -1}, {three, -1, -1}, {three, 0, 1}, {three, 8, 1}, {three, 9, -1}, {three, 10, 2}, {three, far - 1, 2}, {three, far, -1},
		{three, -far - 1, -1}, {three, far + 1, -1}, {three, math.MinInt, -1}, {three, math.MaxInt, -1},
		{nil, 0, -1}, {[]impl.Span{}, 5, -1}, {[]impl.Span{span(4, 5, 0, 0)}, 4, 0}, {[]impl.Span{span(4, 5, 0, 0)}, 5, -1}, {[]impl.Span{span(4, 5, 0, 0)}, 3, -1},
		{comb(200, 0, 4, 2), 797, 199}, {comb(200, 0, 4, 2), 798, -1}, {comb(200, 0, 4, 2), 401, 100}, {comb(201, 0, 4, 2), 1, -1},
	}
	for _, c := range cases {
		if got := impl.SpansAt(c.list, c.t); got != c.want {
			t.Errorf("SpansAt(%v, %d) = %d, want %d", c.list, c.t, got, c.want)
		}
	}
}

func TestSpansLongByHand(t *testing.T) {
	far := impl.Far
	cases := []struct {
		list []impl.Span
		want int
	}{
		{nil, 0}, {[]impl.Span{}, 0}, {[]impl.Span{span(4, 5, 0, 0)}, 1}, {[]impl.Span{span(-far, far, 0, 0)}, 2147483648},
		{[]impl.Span{span(-far, -5, 1, 2), span(0, 9, 3, 4), span(10, far, 5, 6)}, 2147483642}, {comb(200, -300, 4, 3), 600}, {comb(201, -300, 4, 3), -1},
	}
	for _, c := range cases {
		if got := impl.SpansLong(c.list); got != c.want {
			t.Errorf("SpansLong(%v) = %d, want %d", c.list, got, c.want)
		}
	}
}

func TestSpansWithinByHand(t *testing.T) {
	far := impl.Far
	three := []impl.Span{span(-far, -5, 1, 2), span(0, 9, 3, 4), span(10, far, 5, 6)}
	cases := []struct {
		list     []impl.Span
		from, to int
		want     []impl.Span
	}{
		{three, -far, far, three},
		{three, -5, 10, []impl.Span{span(0, 9, 3, 4)}},
		{three, 0, 9, []impl.Span{span(0, 9, 3, 4)}},
		{three, 1, 9, []impl.Span{span(1, 9, 0, 4)}},
		{three, 0, 8, []impl.Span{span(0, 8, 3, 0)}},
		{three, 4, 5, []impl.Span{span(4, 5, 0, 0)}},
		{three, -6, 11, []impl.Span{span(-6, -5, 0, 2), span(0, 9, 3, 4), span(10, 11, 5, 0)}},
		{three, -7, -6, []impl.Span{span(-7, -6, 0, 0)}},
		{three, -5, 0, nil},
		{three, 9, 10, nil},
		{three, 1 - far, far - 1, []impl.Span{span(1-far, -5, 0, 2), span(0, 9, 3, 4), span(10, far-1, 5, 0)}},
		{three, -far, 1 - far, []impl.Span{span(-far, 1-far, 1, 0)}},
		{three, far - 1, far, []impl.Span{span(far-1, far, 0, 6)}},
		// Nothing lies ahead of where it starts.
		{three, 4, 4, nil}, {three, 5, 4, nil}, {three, 9, 0, nil}, {three, far, -far, nil}, {three, -far, -far, nil}, {three, far, far, nil},
		{nil, -far, far, nil},
		{comb(200, 0, 4, 2), -far, far, comb(200, 0, 4, 2)},
		{comb(200, 0, 4, 2), 797, 798, []impl.Span{span(797, 798, 0, -201)}},
		{comb(201, 0, 4, 2), 0, 2, nil},
		{three, -far - 1, far, nil}, {three, -far, far + 1, nil}, {three, far + 1, far, nil}, {three, -far, -far - 1, nil},
		{three, math.MinInt, 5, nil}, {three, 0, math.MaxInt, nil}, {three, math.MaxInt, 5, nil}, {three, 0, math.MinInt, nil},
	}
	for _, c := range cases {
		if got := impl.SpansWithin(c.list, c.from, c.to); !slices.Equal(got, c.want) {
			t.Errorf("SpansWithin(%v, %d, %d) = %v, want %v", c.list, c.from, c.to, got, c.want)
		}
	}
}

func TestSpansAgainstMarks(t *testing.T) {
	const many = 8
	for digits := range 1 << many {
		marks := marksOf(digits, many)
		list := spansOf(marks, 0, 1)
		long := 0
		for part, marked := range marks {
			at := impl.SpansAt(list, part)
			if marked {
				long++
			}
			if marked != (at >= 0) || marked && (part < list[at].From || part >= list[at].To) {
				t.Fatalf("SpansAt(%v, %d) = %d", list, part, at)
			}
		}
		if got := impl.SpansLong(list); got != long {
			t.Fatalf("SpansLong(%v) = %d, want %d", list, got, long)
		}
		for from := -1; from <= many+1; from++ {
			for to := -1; to <= many+1; to++ {
				checkWithin(t, list, marks, from, to)
			}
		}
	}
}

// checkWithin holds what spans have between two parts against their marks, and its ends against theirs.
func checkWithin(t *testing.T, list []impl.Span, marks []bool, from int, to int) {
	t.Helper()
	inner := slices.Clone(marks)
	for part := range inner {
		inner[part] = inner[part] && fromTo(part, from, to-1)
	}
	want := spansOf(inner, 0, 1)
	for i, s := range want {
		all := list[slices.IndexFunc(list, func(o impl.Span) bool { return fromTo(s.From, o.From, o.To-1) })]
		want[i].In, want[i].Out = 0, 0
		if s.From == all.From {
			want[i].In = all.In
		}
		if s.To == all.To {
			want[i].Out = all.Out
		}
	}
	kept := slices.Clone(list)
	if got := impl.SpansWithin(list, from, to); !slices.Equal(got, want) || !slices.Equal(list, kept) {
		t.Fatalf("SpansWithin(%v, %d, %d) = %v, want %v", kept, from, to, got, want)
	}
}

func TestNoSpansHaveNothing(t *testing.T) {
	for _, none := range noSpans() {
		for _, part := range []int{-impl.Far, -1, 0, 1, 3, 5, impl.Far - 1} {
			if got := impl.SpansAt(none, part); got != -1 {
				t.Errorf("SpansAt(%v, %d) = %d", none, part, got)
			}
		}
		if got := impl.SpansLong(none); got != -1 {
			t.Errorf("SpansLong(%v) = %d", none, got)
		}
		for _, part := range []int{-impl.Far, 0, 1, 2} {
			if got := impl.SpansWithin(none, part, impl.Far); len(got) != 0 {
				t.Errorf("SpansWithin(%v, %d, Far) = %v", none, part, got)
			}
		}
	}
}

func TestSpansAreNewMemory(t *testing.T) {
	a, b := comb(9, 0, 10, 8), comb(9, 100, 10, 3)
	around := append(slices.Clone(a), b...)
	makes := []func(list []impl.Span) []impl.Span{
		func(list []impl.Span) []impl.Span { return impl.SpansBoth(list, list) },
		func(list []impl.Span) []impl.Span {
			return impl.SpansBoth(list, []impl.Span{span(-impl.Far, impl.Far, 1, 2)})
		},
		func(list []impl.Span) []impl.Span { return impl.SpansEither(list, nil) },
		func(list []impl.Span) []impl.Span { return impl.SpansEither(nil, list) },
		func(list []impl.Span) []impl.Span { return impl.SpansLess(list, nil) },
		func(list []impl.Span) []impl.Span { return impl.SpansWithin(list, -impl.Far, impl.Far) },
	}
	for i, of := range makes {
		// The list has room behind it, where b stands.
		room := slices.Clone(around)
		list := room[:len(a)]
		first, second := of(list), of(list)
		if !slices.Equal(first, a) {
			t.Fatalf("%d: %v, want %v", i, first, a)
		}
		full := first[:cap(first)]
		for k := range full {
			full[k] = span(1, 2, 3, 4)
		}
		if !slices.Equal(room, around) || !slices.Equal(second, a) {
			t.Errorf("%d: what is returned shares memory", i)
		}
	}
}
