package tests

import (
	"math"
	"testing"

	"loop.example/homeconsole/impl"
)

// notComponents has numbers that no component can be, also some that would wrap to one, or whose lowest binary digits are those of one.
var notComponents = []int{
	-1, -2, -15, -16, -30, -31, -32, -33, -62, -63, -64, -255, -256, -1024, -32768, -65536,
	32, 33, 34, 47, 48, 62, 63, 64, 95, 127, 128, 255, 256, 257, 1023, 1024, 32767, 65535, 65536, 65536 + 31,
	1<<32 + 3, 1 << 32, -(1 << 32), -(1 << 32) + 31, 1 << 62, 1<<62 + 31, math.MaxInt - 1, math.MaxInt, math.MinInt, math.MinInt + 31,
}

// notColors has numbers of no color, also some that would wrap to one.
var notColors = []int{
	-1, -2, -31, -32, -1024, -32766, -32767, -32768, -32769, -65535, -65536, -65537,
	32768, 32769, 32799, 32800, 33792, 65534, 65535, 65536, 65537, 65536 + 32767, 131072, 1 << 20,
	1<<32 + 3137, 1 << 32, -(1 << 32), -(1 << 32) + 3137, math.MaxInt - 1, math.MaxInt, math.MinInt, math.MinInt + 3137,
}

// notLevels has numbers that are no level, also some that would wrap to one.
var notLevels = []int{
	-1, -2, -8, -15, -16, -17, -31, -32, -240, -256, -65536,
	17, 18, 24, 31, 32, 33, 48, 64, 255, 256, 256 + 8, 65536, 65536 + 16,
	1<<32 + 8, 1 << 32, -(1 << 32), -(1 << 32) + 16, 1<<60 + 8, 1 << 60, math.MaxInt - 1, math.MaxInt, math.MinInt, math.MinInt + 8,
}

// edgeComponents are the ends, their neighbours, powers of 2 and numbers whose binary digits alternate.
var edgeComponents = []int{0, 1, 2, 10, 15, 16, 21, 30, 31}

var black, white = impl.Color{}, impl.Color{R: 31, G: 31, B: 31}

// componentsOf has the components of a color, in the order in which colors are written.
func componentsOf(c impl.Color) [3]int {
	return [3]int{c.R, c.G, c.B}
}

func colorOf(parts [3]int) impl.Color {
	return impl.Color{R: parts[0], G: parts[1], B: parts[2]}
}

// forColors calls a check for every valid color with its number, in the order of the numbers.
func forColors(check func(c impl.Color, n int)) {
	n := 0
	for b := 0; b <= 31; b++ {
		for g := 0; g <= 31; g++ {
			for r := 0; r <= 31; r++ {
				check(impl.Color{R: r, G: g, B: b}, n)
				n++
			}
		}
	}
}

// edgeColors has all colors with edge components.
func edgeColors() []impl.Color {
	var list []impl.Color
	for _, r := range edgeComponents {
		for _, g := range edgeComponents {
			for _, b := range edgeComponents {
				list = append(list, impl.Color{R: r, G: g, B: b})
			}
		}
	}
	return list
}

// forBrokenColors calls a check for colors with one, two or three components that are not valid.
func forBrokenColors(check func(c impl.Color)) {
	for i, bad := range notComponents {
		for j, bad2 := range notComponents {
			for place := range 3 {
				parts := [3]int{bad, bad, bad}
				parts[place] = bad2
				check(colorOf(parts))
				parts[(place+1)%3] = notComponents[(i+j)%len(notComponents)]
				check(colorOf(parts))
				for _, good := range edgeComponents {
					parts := [3]int{bad, bad2, bad2}
					parts[2-place], parts[place] = parts[place], good
					check(colorOf(parts))
				}
			}
		}
		for _, one := range edgeComponents {
			for _, two := range edgeComponents {
				check(impl.Color{R: bad, G: one, B: two})
				check(impl.Color{R: one, G: bad, B: two})
				check(impl.Color{R: one, G: two, B: bad})
			}
		}
	}
}

// mean is written from the document: the greatest number that is at most half the sum.
func mean(a int, b int) int {
	m := 0
	for 2*(m+1) <= a+b {
		m++
	}
	return m
}

// faded is written from the document: how often 16 can be taken from the product.
func faded(part int, level int) int {
	n := 0
	for rest := part * level; rest >= 16; rest -= 16 {
		n++
	}
	return n
}

// tableOf has a function's results for two numbers, the second one at most last, so that they are not worked out again for every color.
func tableOf(last int, result func(a int, b int) int) [32][32]int {
	var table [32][32]int
	for a := range table {
		for b := 0; b <= last; b++ {
			table[a][b] = result(a, b)
		}
	}
	return table
}

func TestP53ComponentsAreBounded(t *testing.T) {
	forColors(func(c impl.Color, n int) {
		if !impl.ColorValid(c) {
			t.Fatal("valid", c)
		}
		for place := range 3 {
			for _, bad := range []int{32, -1} {
				parts := componentsOf(c)
				parts[place] = bad
				if impl.ColorValid(colorOf(parts)) {
					t.Fatal("bound", place, bad, c)
				}
			}
		}
	})
}

// TestP53EveryBound goes past each end by single numbers, in all three places at once.
func TestP53EveryBound(t *testing.T) {
	inside := func(n int) bool { return n >= 0 && n <= impl.ColorTop }
	for r := -40; r <= 70; r++ {
		for g := -40; g <= 70; g++ {
			for b := -40; b <= 70; b++ {
				want := inside(r) && inside(g) && inside(b)
				if impl.ColorValid(impl.Color{R: r, G: g, B: b}) != want {
					t.Fatal(r, g, b)
				}
			}
		}
	}
}

func TestP53OtherColors(t *testing.T) {
	forBrokenColors(func(c impl.Color) {
		if impl.ColorValid(c) {
			t.Fatal(c)
		}
	})
}

func TestP54PackedColorsCanBeUnpacked(t *testing.T) {
	forColors(func(c impl.Color, n int) {
		got := impl.PackColor(c)
		if got != n {
			t.Fatal(c, "wanted", n, "got", got)
		}
		if back, ok := impl.UnpackColor(got); !ok || back != c {
			t.Fatal("back", c, got, back, ok)
		}
	})
}

func TestP54NumbersWorkedOutByHand(t *testing.T) {
	for _, c := range []struct {
		color impl.Color
		n     int
	}{
		{black, 0},
		{white, 32767},
		{impl.Color{R: 1}, 1},
		{impl.Color{G: 1}, 32},
		{impl.Color{B: 1}, 1024},
		{impl.Color{R: 31}, 31},
		{impl.Color{G: 31}, 992},
		{impl.Color{B: 31}, 31744},
		{impl.Color{G: 31, B: 31}, 32736},
		{impl.Color{R: 31, B: 31}, 31775},
		{impl.Color{R: 31, G: 31}, 1023},
		{impl.Color{R: 1, G: 2, B: 3}, 3137},
		{impl.Color{R: 16, G: 16, B: 16}, 16912},
		{impl.Color{R: 30, G: 31, B: 31}, 32766},
	} {
		if got := impl.PackColor(c.color); got != c.n {
			t.Error(c, got)
		}
		if got, ok := impl.UnpackColor(c.n); !ok || got != c.color {
			t.Error(c, got, ok)
		}
	}
}

func TestP54OtherColorsHaveNoNumber(t *testing.T) {
	forBrokenColors(func(c impl.Color) {
		if n := impl.PackColor(c); n != -1 {
			t.Fatal(c, n)
		}
	})
}

// TestP54OtherWaysToWriteANumber has components that are not valid, though R + 32*G + 1024*B is the number of a color.
func TestP54OtherWaysToWriteANumber(t *testing.T) {
	forColors(func(c impl.Color, n int) {
		for _, other := range []impl.Color{
			{R: c.R + 32, G: c.G - 1, B: c.B},
			{R: c.R - 32, G: c.G + 1, B: c.B},
			{R: c.R, G: c.G + 32, B: c.B - 1},
			{R: c.R, G: c.G - 32, B: c.B + 1},
			{R: c.R + 1024, G: c.G, B: c.B - 1},
			{R: c.R + 32, G: c.G + 31, B: c.B - 1},
		} {
			if got := impl.PackColor(other); got != -1 {
				t.Fatal(n, other, got)
			}
		}
	})
}

func TestP55NumbersAreColors(t *testing.T) {
	for n := 0; n <= 32767; n++ {
		c, ok := impl.UnpackColor(n)
		if !ok || !impl.ColorValid(c) || c.R+32*c.G+1024*c.B != n {
			t.Fatal(n, c, ok)
		}
		if got := impl.PackColor(c); got != n {
			t.Fatal("number", n, c, got)
		}
	}
}

func checkNoColor(t *testing.T, n int) {
	t.Helper()
	if c, ok := impl.UnpackColor(n); ok || c != black {
		t.Fatal(n, c, ok)
	}
}

func TestP55OtherNumbersAreNoColors(t *testing.T) {
	for n := 1; n <= 200000; n++ {
		checkNoColor(t, -n)
		checkNoColor(t, 32767+n)
	}
	for _, n := range notColors {
		checkNoColor(t, n)
	}
	for place := 15; place <= 63; place++ {
		// Above the digits of a color there is one more, which is no part of it.
		for _, low := range []int{0, 1, 3137, 16912, 32767} {
			checkNoColor(t, low|int(uint64(1)<<place))
		}
	}
}

// checkMixed wants two valid colors to be mixed to their mean, in both orders.
func checkMixed(t *testing.T, means *[32][32]int, a impl.Color, b impl.Color) {
	t.Helper()
	want := impl.Color{R: means[a.R][b.R], G: means[a.G][b.G], B: means[a.B][b.B]}
	if got := impl.MixColors(a, b); got != want {
		t.Fatal(a, b, "wanted", want, "got", got)
	}
	if got := impl.MixColors(b, a); got != want {
		t.Fatal("exchanged", b, a, "wanted", want, "got", got)
	}
}

// TestP56EveryColor mixes every color with all colors that have edge components.
func TestP56EveryColor(t *testing.T) {
	means, edges := tableOf(31, mean), edgeColors()
	forColors(func(c impl.Color, n int) {
		for _, other := range edges {
			checkMixed(t, &means, c, other)
		}
	})
}

// TestP56EveryTwoComponents has every two components in each place, beside the sums of 0, of 31 and of 62.
func TestP56EveryTwoComponents(t *testing.T) {
	means := tableOf(31, mean)
	for place := range 3 {
		for a := 0; a <= 31; a++ {
			for b := 0; b <= 31; b++ {
				for _, around := range [][2]int{{0, 0}, {0, 31}, {31, 0}, {15, 16}, {31, 31}, {a, b}, {b, a}} {
					one, two := [3]int{around[0], around[0], around[0]}, [3]int{around[1], around[1], around[1]}
					one[place], two[place] = a, b
					checkMixed(t, &means, colorOf(one), colorOf(two))
				}
			}
		}
	}
}

func TestP56AnyTwoColors(t *testing.T) {
	means, next := tableOf(31, mean), mixed(9)
	color := func() impl.Color { return impl.Color{R: next(32), G: next(32), B: next(32)} }
	for range 1000000 {
		checkMixed(t, &means, color(), color())
	}
}

func TestP56MixingAColorWithItselfChangesNothing(t *testing.T) {
	forColors(func(c impl.Color, n int) {
		if got := impl.MixColors(c, c); got != c {
			t.Fatal(c, got)
		}
	})
}

// TestP56MixedColorsAreBetween uses nothing but the promise, also for every two neighbouring colors and every two whose numbers add up to white.
func TestP56MixedColorsAreBetween(t *testing.T) {
	between := func(a impl.Color, b impl.Color) {
		mix := componentsOf(impl.MixColors(a, b))
		for place, part := range mix {
			one, two := componentsOf(a)[place], componentsOf(b)[place]
			if part < min(one, two) || part > max(one, two) {
				t.Fatal(place, a, b, mix)
			}
			// Rounded down, not up: the result is never nearer to the greater one.
			if part-min(one, two) > max(one, two)-part {
				t.Fatal("rounded", place, a, b, mix)
			}
		}
	}
	before, next := black, mixed(56)
	forColors(func(c impl.Color, n int) {
		between(before, c)
		between(c, before)
		between(c, impl.Color{R: 31 - c.R, G: 31 - c.G, B: 31 - c.B})
		for range 20 {
			between(c, impl.Color{R: next(32), G: next(32), B: next(32)})
		}
		before = c
	})
}

func TestP56MeansWorkedOutByHand(t *testing.T) {
	for _, c := range []struct {
		a    impl.Color
		b    impl.Color
		want impl.Color
	}{
		{black, black, black},
		{white, white, white},
		{black, white, impl.Color{R: 15, G: 15, B: 15}},
		{impl.Color{R: 31, B: 4}, impl.Color{G: 1, B: 5}, impl.Color{R: 15, B: 4}},
		{black, impl.Color{R: 1, G: 1, B: 1}, black},
		{black, impl.Color{R: 2, G: 2, B: 2}, impl.Color{R: 1, G: 1, B: 1}},
		{white, impl.Color{R: 30, G: 30, B: 30}, impl.Color{R: 30, G: 30, B: 30}},
		{white, impl.Color{R: 29, G: 28, B: 27}, impl.Color{R: 30, G: 29, B: 29}},
		{impl.Color{G: 1}, black, black},
		{impl.Color{B: 1}, black, black},
		{impl.Color{R: 31, G: 1, B: 1}, impl.Color{R: 31}, impl.Color{R: 31}},
		{impl.Color{R: 15, G: 16, B: 15}, impl.Color{R: 16, G: 15, B: 16}, impl.Color{R: 15, G: 15, B: 15}},
		{impl.Color{R: 10, G: 21, B: 0}, impl.Color{R: 21, G: 10, B: 31}, impl.Color{R: 15, G: 15, B: 15}},
		{impl.Color{R: 7, G: 8, B: 9}, impl.Color{R: 10, G: 20, B: 30}, impl.Color{R: 8, G: 14, B: 19}},
	} {
		if got := impl.MixColors(c.a, c.b); got != c.want {
			t.Error(c, got)
		}
		if got := impl.MixColors(c.b, c.a); got != c.want {
			t.Error("exchanged", c, got)
		}
	}
}

// TestP56OtherColorsAreNotMixed has valid colors other than black beside the broken ones, so that a mean would not be the zero value.
func TestP56OtherColorsAreNotMixed(t *testing.T) {
	forBrokenColors(func(c impl.Color) {
		for _, good := range []impl.Color{white, black, {R: 30, G: 2, B: 17}, {R: 1, G: 31, B: 16}} {
			if got := impl.MixColors(c, good); got != black {
				t.Fatal("first", c, good, got)
			}
			if got := impl.MixColors(good, c); got != black {
				t.Fatal("second", good, c, got)
			}
		}
		if got := impl.MixColors(c, c); got != black {
			t.Fatal("both", c, got)
		}
	})
}

// TestP56MeansThatWouldBeColors has a component -1 or 32, or far outside, whose mean with another one is in 0..31.
func TestP56MeansThatWouldBeColors(t *testing.T) {
	for place := range 3 {
		for distance := 1; distance <= 32; distance++ {
			for part := 0; part <= 31; part++ {
				for _, bad := range []int{-distance, 31 + distance} {
					one, two := [3]int{20, 20, 20}, [3]int{21, 21, 21}
					one[place], two[place] = bad, part
					if got := impl.MixColors(colorOf(one), colorOf(two)); got != black {
						t.Fatal(one, two, got)
					}
					if got := impl.MixColors(colorOf(two), colorOf(one)); got != black {
						t.Fatal(two, one, got)
					}
				}
			}
		}
	}
}

func TestP57EveryColorAtEveryLevel(t *testing.T) {
	parts := tableOf(16, faded)
	forColors(func(c impl.Color, n int) {
		for level := 0; level <= 16; level++ {
			want := impl.Color{R: parts[c.R][level], G: parts[c.G][level], B: parts[c.B][level]}
			if got := impl.FadeColor(c, level); got != want {
				t.Fatal(c, level, "wanted", want, "got", got)
			}
		}
	})
}

func TestP57FadingDarkens(t *testing.T) {
	forColors(func(c impl.Color, n int) {
		if got := impl.FadeColor(c, 16); got != c {
			t.Fatal("sixteen", c, got)
		}
		if got := impl.FadeColor(c, 0); got != black {
			t.Fatal("zero", c, got)
		}
		lower := black
		for level := 0; level <= 16; level++ {
			got := impl.FadeColor(c, level)
			if !impl.ColorValid(got) || got.R < lower.R || got.G < lower.G || got.B < lower.B {
				t.Fatal("greater", c, level, lower, got)
			}
			lower = got
		}
	})
}

func TestP57LevelsWorkedOutByHand(t *testing.T) {
	for _, c := range []struct {
		color impl.Color
		level int
		want  impl.Color
	}{
		{white, 0, black},
		{white, 1, impl.Color{R: 1, G: 1, B: 1}},
		{white, 2, impl.Color{R: 3, G: 3, B: 3}},
		{white, 7, impl.Color{R: 13, G: 13, B: 13}},
		{white, 8, impl.Color{R: 15, G: 15, B: 15}},
		{white, 9, impl.Color{R: 17, G: 17, B: 17}},
		{white, 15, impl.Color{R: 29, G: 29, B: 29}},
		{white, 16, white},
		{black, 8, black},
		{black, 16, black},
		{impl.Color{R: 31, G: 16, B: 8}, 8, impl.Color{R: 15, G: 8, B: 4}},
		{impl.Color{R: 1, G: 2, B: 3}, 15, impl.Color{R: 0, G: 1, B: 2}},
		{impl.Color{R: 1, G: 2, B: 3}, 16, impl.Color{R: 1, G: 2, B: 3}},
		{impl.Color{R: 15, G: 16, B: 17}, 1, impl.Color{R: 0, G: 1, B: 1}},
		{impl.Color{R: 5, G: 11, B: 22}, 3, impl.Color{R: 0, G: 2, B: 4}},
		{impl.Color{R: 0, G: 31, B: 0}, 15, impl.Color{G: 29}},
		{impl.Color{R: 0, G: 0, B: 31}, 15, impl.Color{B: 29}},
	} {
		if got := impl.FadeColor(c.color, c.level); got != c.want {
			t.Error(c, got)
		}
	}
}

func TestP57OtherLevels(t *testing.T) {
	colors := append(edgeColors(), impl.Color{R: 17, G: 5, B: 29})
	for _, c := range colors {
		for n := 1; n <= 300; n++ {
			for _, level := range []int{-n, 16 + n} {
				if got := impl.FadeColor(c, level); got != black {
					t.Fatal(c, level, got)
				}
			}
		}
		for _, level := range notLevels {
			if got := impl.FadeColor(c, level); got != black {
				t.Fatal(c, level, got)
			}
		}
	}
}

func TestP57OtherColorsAreNotFaded(t *testing.T) {
	forBrokenColors(func(c impl.Color) {
		for _, level := range []int{0, 1, 8, 15, 16, -1, 17} {
			if got := impl.FadeColor(c, level); got != black {
				t.Fatal(c, level, got)
			}
		}
	})
}

// TestP57OtherColorsAtEveryLevel has components beyond ColorTop that a low level would bring back below it.
func TestP57OtherColorsAtEveryLevel(t *testing.T) {
	for place := range 3 {
		for _, bad := range notComponents {
			for level := -1; level <= 17; level++ {
				parts := [3]int{31, 31, 31}
				parts[place] = bad
				if got := impl.FadeColor(colorOf(parts), level); got != black {
					t.Fatal(parts, level, got)
				}
			}
		}
	}
}

func TestP121HalfLevelsMixWithBlack(t *testing.T) {
	forColors(func(c impl.Color, n int) {
		got := impl.FadeColor(c, 8)
		if want := (impl.Color{R: c.R / 2, G: c.G / 2, B: c.B / 2}); got != want {
			t.Fatal(c, "wanted", want, "got", got)
		}
		if impl.MixColors(c, black) != got || impl.MixColors(black, c) != got {
			t.Fatal("mixed", c, got)
		}
	})
}

func TestP121HalvesWorkedOutByHand(t *testing.T) {
	for _, c := range [][2]impl.Color{
		{black, black},
		{white, {R: 15, G: 15, B: 15}},
		{{R: 1, G: 1, B: 1}, black},
		{{R: 2, G: 3, B: 4}, {R: 1, G: 1, B: 2}},
		{{R: 30, G: 29, B: 28}, {R: 15, G: 14, B: 14}},
		{{R: 0, G: 0, B: 31}, {B: 15}},
		{{R: 0, G: 31, B: 1}, {G: 15}},
	} {
		if impl.FadeColor(c[0], 8) != c[1] || impl.MixColors(c[0], black) != c[1] || impl.MixColors(black, c[0]) != c[1] {
			t.Error(c, impl.FadeColor(c[0], 8), impl.MixColors(c[0], black))
		}
	}
}

func TestP121OtherColorsAreNotHalved(t *testing.T) {
	forBrokenColors(func(c impl.Color) {
		if impl.FadeColor(c, 8) != black || impl.MixColors(c, black) != black || impl.MixColors(black, c) != black {
			t.Fatal(c)
		}
	})
}

func TestP56AndP57CallsDependOnTheirArgumentsAlone(t *testing.T) {
	a, b, broken := impl.Color{R: 31, G: 7, B: 16}, impl.Color{R: 2, G: 9, B: 30}, impl.Color{R: 31, G: 7, B: 32}
	for range 5 {
		if impl.MixColors(a, b) != (impl.Color{R: 16, G: 8, B: 23}) || impl.MixColors(a, broken) != black {
			t.Error("mixed")
		}
		if impl.FadeColor(a, 4) != (impl.Color{R: 7, G: 1, B: 4}) || impl.FadeColor(broken, 4) != black || impl.FadeColor(a, 17) != black {
			t.Error("faded")
		}
		if impl.PackColor(a) != 16639 || impl.PackColor(b) != 31010 || impl.PackColor(broken) != -1 {
			t.Error("packed", impl.PackColor(a), impl.PackColor(b))
		}
		if c, ok := impl.UnpackColor(16639); !ok || c != a {
			t.Error("unpacked", c, ok)
		}
		if c, ok := impl.UnpackColor(32768); ok || c != black {
			t.Error("no color", c, ok)
		}
	}
}
