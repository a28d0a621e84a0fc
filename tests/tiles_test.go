package tests

import (
	"math"
	"slices"
	"testing"

	"loop.example/homeconsole/impl"
)

// notPixels has numbers that no pixel can be, also some that would wrap to one, or whose lowest binary digits are those of one.
var notPixels = []int{-1, 4, -2, -3, -4, -5, -252, -253, -255, -256, 5, 6, 7, 8, 11, 12, 127, 128, 255, 256, 257, 259, 65536 + 2, 1<<32 + 3, 1 << 32, -(1 << 32), -(1 << 32) + 1, math.MaxInt, math.MinInt, math.MinInt + 1}

// tileOf makes a tile of eight rows of eight digits.
func tileOf(rows ...string) impl.Tile {
	var x impl.Tile
	for y, row := range rows {
		for column, pixel := range row {
			x.Pixels[8*y+column] = int(pixel - '0')
		}
	}
	return x
}

func plainTile(value int) impl.Tile {
	var x impl.Tile
	for place := range x.Pixels {
		x.Pixels[place] = value
	}
	return x
}

// mixed returns a function that yields numbers in 0..n-1, always the same ones for one seed.
func mixed(seed int) func(n int) int {
	state := uint32(seed)*2654435761 + 12345
	return func(n int) int {
		state = state*1664525 + 1013904223
		return int(state>>16) % n
	}
}

// mixedTile has pixels of the given values only, each of which occurs.
func mixedTile(seed int, values []int) impl.Tile {
	next := mixed(seed)
	var x impl.Tile
	for place := range x.Pixels {
		x.Pixels[place] = values[next(len(values))]
	}
	start := next(64)
	for i, value := range values {
		x.Pixels[(start+5*i)%64] = value
	}
	return x
}

// valuesOf has the values whose binary digits are set.
func valuesOf(used int) []int {
	var values []int
	for value := 0; value <= 3; value++ {
		if digitsOf(used)[value] == 1 {
			values = append(values, value)
		}
	}
	return values
}

// forSinglePixels calls a check for tiles of one value but for a single pixel, in each place.
func forSinglePixels(check func(x impl.Tile, place int, value int, around int)) {
	for around := 0; around <= 3; around++ {
		for place := 0; place < 64; place++ {
			for value := 0; value <= 3; value++ {
				if value != around {
					x := plainTile(around)
					x.Pixels[place] = value
					check(x, place, value, around)
				}
			}
		}
	}
}

// forUses calls a check for many tiles of each choice of values that occur, given as binary digits.
func forUses(check func(x impl.Tile, used int)) {
	for used := 1; used <= 15; used++ {
		for seed := 0; seed < 200; seed++ {
			check(mixedTile(16*seed+used, valuesOf(used)), used)
		}
	}
}

func forTiles(check func(x impl.Tile)) {
	for value := 0; value <= 3; value++ {
		check(plainTile(value))
	}
	forSinglePixels(func(x impl.Tile, place int, value int, around int) { check(x) })
	for one := 0; one < 64; one++ {
		for two := 0; two < 64; two++ {
			var x impl.Tile
			x.Pixels[one] += 1
			x.Pixels[two] += 2
			check(x)
		}
	}
	forUses(func(x impl.Tile, used int) { check(x) })
}

// forBrokenTiles calls a check for tiles with one, two or only pixels that are not valid.
func forBrokenTiles(check func(x impl.Tile)) {
	tiles := []impl.Tile{plainTile(0), plainTile(1), plainTile(2), plainTile(3), mixedTile(5, valuesOf(15))}
	for _, good := range tiles {
		for _, bad := range notPixels {
			for place := range good.Pixels {
				x := good
				x.Pixels[place] = bad
				check(x)
				for i, other := range []int{0, 1, 7, 8, 31, 32, 62, 63} {
					y := x
					y.Pixels[other] = notPixels[(place+i)%len(notPixels)]
					check(y)
				}
			}
		}
	}
	for _, bad := range notPixels {
		check(plainTile(bad))
	}
}

// bytesOfTile is TileBytes, written from the document.
func bytesOfTile(x impl.Tile) []int {
	list := make([]int, 16)
	for place, pixel := range x.Pixels {
		row := place / 8
		list[row] = 2*list[row] + pixel%2
		list[8+row] = 2*list[8+row] + pixel/2
	}
	return list
}

// tileOfBytes is ReadTile, written from the document.
func tileOfBytes(list []int) impl.Tile {
	var x impl.Tile
	for place := range x.Pixels {
		row, digit := place/8, 7-place%8
		x.Pixels[place] = digitsOf(list[row])[digit] + 2*digitsOf(list[8+row])[digit]
	}
	return x
}

// flipped is FlipTile, written from the document.
func flipped(x impl.Tile, across bool, down bool) impl.Tile {
	var y impl.Tile
	for row := 0; row < 8; row++ {
		for column := 0; column < 8; column++ {
			fromRow, fromColumn := row, column
			if across {
				fromColumn = 7 - column
			}
			if down {
				fromRow = 7 - row
			}
			y.Pixels[8*row+column] = x.Pixels[8*fromRow+fromColumn]
		}
	}
	return y
}

// turned is TurnTile, written from the document.
func turned(x impl.Tile) impl.Tile {
	var y impl.Tile
	for row := 0; row < 8; row++ {
		for column := 0; column < 8; column++ {
			y.Pixels[8*column+7-row] = x.Pixels[8*row+column]
		}
	}
	return y
}

// forFlips calls a check for the four ways of flipping.
func forFlips(check func(across bool, down bool)) {
	for _, across := range bothFlags {
		for _, down := range bothFlags {
			check(across, down)
		}
	}
}

// checkBothWays wants a tile to have the bytes, and the bytes to be the tile.
func checkBothWays(t *testing.T, x impl.Tile, list []int) {
	t.Helper()
	if got := impl.TileBytes(x); !slices.Equal(got, list) {
		t.Fatal(x, "wanted", list, "got", got)
	}
	if got, ok := impl.ReadTile(list); !ok || got != x {
		t.Fatal(list, "wanted", x, "got", got, ok)
	}
}

func checkNotRead(t *testing.T, list []int) {
	t.Helper()
	if x, ok := impl.ReadTile(list); ok || x != (impl.Tile{}) {
		t.Fatal(list, x, ok)
	}
}

func TestP47PixelsHaveFourValues(t *testing.T) {
	forTiles(func(x impl.Tile) {
		if !impl.TileValid(x) {
			t.Fatal("valid", x)
		}
		for place := range x.Pixels {
			y := x
			y.Pixels[place] = 4
			if impl.TileValid(y) {
				t.Fatal("four", place, x)
			}
			y.Pixels[place] = -1
			if impl.TileValid(y) {
				t.Fatal("negative", place, x)
			}
		}
	})
}

// TestP47EveryBound goes past each end by single numbers, in any place.
func TestP47EveryBound(t *testing.T) {
	for value := 0; value <= 3; value++ {
		x := plainTile(value)
		for place := range x.Pixels {
			y := x
			for n := -600; n <= 600; n++ {
				y.Pixels[place] = n
				if impl.TileValid(y) != (n >= 0 && n <= 3) {
					t.Error(value, place, n)
				}
			}
		}
	}
}

func TestP47OtherTiles(t *testing.T) {
	forBrokenTiles(func(x impl.Tile) {
		if impl.TileValid(x) {
			t.Fatal(x)
		}
	})
}

func TestP48TilesCanBeReadBack(t *testing.T) {
	forTiles(func(x impl.Tile) {
		list := impl.TileBytes(x)
		if len(list) != 16 {
			t.Fatal("bytes", x, list)
		}
		if y, ok := impl.ReadTile(list); !ok || y != x {
			t.Fatal("back", x, list, y, ok)
		}
		checkBothWays(t, x, bytesOfTile(x))
	})
}

// TestP48SinglePixels names the byte and the digit of every pixel: a row has a byte in each plane, and the leftmost pixel the highest digit.
func TestP48SinglePixels(t *testing.T) {
	powers := [8]int{128, 64, 32, 16, 8, 4, 2, 1}
	full := [4][2]int{{0, 0}, {255, 0}, {0, 255}, {255, 255}}
	forSinglePixels(func(x impl.Tile, place int, value int, around int) {
		row, power := place/8, powers[place%8]
		var want []int
		for _, plane := range full[around] {
			want = append(want, slices.Repeat([]int{plane}, 8)...)
		}
		for plane, digit := range [4][2]int{{0, 0}, {1, 0}, {0, 1}, {1, 1}}[value] {
			at := 8*plane + row
			want[at] = want[at] - want[at]&power + digit*power
		}
		checkBothWays(t, x, want)
	})
}

func TestP48BytesWorkedOutByHand(t *testing.T) {
	zeros := []int{0, 0, 0, 0, 0, 0, 0, 0}
	ones := []int{255, 255, 255, 255, 255, 255, 255, 255}
	for _, c := range []struct {
		x    impl.Tile
		list []int
	}{
		{plainTile(0), slices.Concat(zeros, zeros)},
		{plainTile(1), slices.Concat(ones, zeros)},
		{plainTile(2), slices.Concat(zeros, ones)},
		{plainTile(3), slices.Concat(ones, ones)},
		{
			tileOf("30000000", "01000000", "00000000", "00000000", "00000000", "00000000", "00000000", "00000002"),
			[]int{128, 64, 0, 0, 0, 0, 0, 0, 128, 0, 0, 0, 0, 0, 0, 1},
		},
		{
			tileOf("01230123", "33221100", "00000001", "10000000", "00000002", "20000000", "12121212", "00033000"),
			[]int{85, 204, 1, 128, 0, 0, 170, 24, 51, 240, 0, 0, 1, 128, 85, 24},
		},
	} {
		checkBothWays(t, c.x, c.list)
	}
}

func TestP48OtherTilesHaveNoBytes(t *testing.T) {
	forBrokenTiles(func(x impl.Tile) {
		if list := impl.TileBytes(x); len(list) != 0 {
			t.Fatal(x, list)
		}
	})
}

func TestP48BytesAreNewMemory(t *testing.T) {
	forUses(func(x impl.Tile, used int) {
		first, second := impl.TileBytes(x), impl.TileBytes(x)
		first = first[:cap(first)]
		for i := range first {
			first[i] = 77
		}
		want := bytesOfTile(x)
		if !slices.Equal(second, want) || !slices.Equal(impl.TileBytes(x), want) {
			t.Fatal(x, second)
		}
	})
}

// checkRead wants 16 bytes to be a tile.
func checkRead(t *testing.T, list []int) {
	t.Helper()
	before := slices.Clone(list)
	x, ok := impl.ReadTile(list)
	if !ok || !impl.TileValid(x) || x != tileOfBytes(list) {
		t.Fatal(list, x, ok)
	}
	if got := impl.TileBytes(x); !slices.Equal(got, list) {
		t.Fatal("bytes", list, x, got)
	}
	if !slices.Equal(before, list) {
		t.Fatal("changed", before, list)
	}
}

// TestP49AllPairsOfBytes has every pair of bytes in every row, once with zeros in all other rows and once in all rows together.
func TestP49AllPairsOfBytes(t *testing.T) {
	forBytePairs(func(low int, high int) {
		all := make([]int, 16)
		for row := range 8 {
			list := make([]int, 16)
			list[row], list[8+row] = low, high
			all[row], all[8+row] = low, high
			checkRead(t, list)
		}
		checkRead(t, all)
	})
}

// TestP49EveryByteInEveryPlace has the bytes 0 and 255, and others, around it.
func TestP49EveryByteInEveryPlace(t *testing.T) {
	for place := range 16 {
		for a := 0; a <= 255; a++ {
			for _, around := range []int{0, 255, 85, 170, 129, a} {
				list := slices.Repeat([]int{around}, 16)
				list[place] = a
				checkRead(t, list)
			}
		}
	}
}

func TestP49MixedBytes(t *testing.T) {
	for seed := range 3000 {
		next := mixed(seed)
		list := make([]int, 16)
		for i := range list {
			list[i] = next(256)
		}
		checkRead(t, list)
	}
}

func TestP49BytesAtTheEdges(t *testing.T) {
	for value, planes := range [4][2]int{{0, 0}, {255, 0}, {0, 255}, {255, 255}} {
		list := slices.Concat(slices.Repeat([]int{planes[0]}, 8), slices.Repeat([]int{planes[1]}, 8))
		checkRead(t, list)
		if x, ok := impl.ReadTile(list); !ok || x != plainTile(value) {
			t.Error(value, x, ok)
		}
	}
}

// TestP49ListsOfOtherLengths has lists with and without spare capacity: what lies there belongs to no list.
func TestP49ListsOfOtherLengths(t *testing.T) {
	checkNotRead(t, nil)
	checkNotRead(t, []int{})
	for _, fill := range [][]int{slices.Repeat([]int{0}, 80), slices.Repeat([]int{255}, 80), slices.Repeat([]int{7, 200, 0, 255}, 20)} {
		for n := 0; n <= len(fill); n++ {
			if n == 16 {
				checkRead(t, fill[:n])
				checkRead(t, slices.Clip(fill[:n]))
				continue
			}
			checkNotRead(t, fill[:n])
			checkNotRead(t, slices.Clip(fill[:n]))
		}
	}
}

func TestP49NumbersThatAreNotBytes(t *testing.T) {
	for place := range 16 {
		for _, around := range []int{0, 255, 100} {
			list := slices.Repeat([]int{around}, 16)
			for n := -600; n <= 600; n++ {
				list[place] = n
				if _, ok := impl.ReadTile(list); ok != isByte(n) {
					t.Fatal(place, n, ok)
				}
			}
			for i, bad := range notBytes {
				list[place] = bad
				checkNotRead(t, list)
				both := slices.Clone(list)
				both[(place+i)%16] = notBytes[(place+i)%len(notBytes)]
				checkNotRead(t, both)
			}
		}
	}
	for _, bad := range notBytes {
		checkNotRead(t, slices.Repeat([]int{bad}, 16))
		checkNotRead(t, slices.Repeat([]int{bad}, 15))
		checkNotRead(t, append(make([]int, 16), bad))
	}
}

func TestP50FlippingTwiceUndoes(t *testing.T) {
	forTiles(func(x impl.Tile) {
		forFlips(func(across bool, down bool) {
			y := impl.FlipTile(x, across, down)
			if y != flipped(x, across, down) {
				t.Fatal("flipped", across, down, x, y)
			}
			if z := impl.FlipTile(y, across, down); z != x {
				t.Fatal("again", across, down, x, z)
			}
		})
		if y := impl.FlipTile(x, false, false); y != x {
			t.Fatal("without", x, y)
		}
		both := impl.FlipTile(x, true, true)
		if impl.TurnTile(impl.TurnTile(x)) != both {
			t.Fatal("twice", x, both)
		}
		if impl.FlipTile(impl.FlipTile(x, true, false), false, true) != both || impl.FlipTile(impl.FlipTile(x, false, true), true, false) != both {
			t.Fatal("one after the other", x, both)
		}
	})
}

// TestP50SinglePixels names the place to which every pixel comes.
func TestP50SinglePixels(t *testing.T) {
	forSinglePixels(func(x impl.Tile, place int, value int, around int) {
		for _, c := range []struct {
			across bool
			down   bool
			place  int
		}{
			{false, false, place},
			{true, false, place - place%8 + 7 - place%8},
			{false, true, 56 - (place - place%8) + place%8},
			{true, true, 63 - place},
		} {
			want := plainTile(around)
			want.Pixels[c.place] = value
			if y := impl.FlipTile(x, c.across, c.down); y != want {
				t.Fatal(place, value, around, c, y)
			}
		}
	})
}

func TestP50FlipsWorkedOutByHand(t *testing.T) {
	x := tileOf("01230000", "10000000", "20000000", "30000000", "00000001", "00000012", "00000123", "11112222")
	for _, c := range []struct {
		across bool
		down   bool
		want   impl.Tile
	}{
		{false, false, x},
		{true, false, tileOf("00003210", "00000001", "00000002", "00000003", "10000000", "21000000", "32100000", "22221111")},
		{false, true, tileOf("11112222", "00000123", "00000012", "00000001", "30000000", "20000000", "10000000", "01230000")},
		{true, true, tileOf("22221111", "32100000", "21000000", "10000000", "00000003", "00000002", "00000001", "00003210")},
	} {
		if y := impl.FlipTile(x, c.across, c.down); y != c.want {
			t.Error(c.across, c.down, y)
		}
	}
}

func TestP50TilesOfOneValue(t *testing.T) {
	for value := 0; value <= 3; value++ {
		forFlips(func(across bool, down bool) {
			if y := impl.FlipTile(plainTile(value), across, down); y != plainTile(value) {
				t.Error(value, across, down, y)
			}
		})
	}
}

func TestP50OtherTilesAreNotFlipped(t *testing.T) {
	forBrokenTiles(func(x impl.Tile) {
		forFlips(func(across bool, down bool) {
			if y := impl.FlipTile(x, across, down); y != (impl.Tile{}) {
				t.Fatal(across, down, x, y)
			}
		})
	})
}

func TestP50CallsDependOnTheirArgumentsAlone(t *testing.T) {
	x, other := mixedTile(1, valuesOf(15)), mixedTile(2, valuesOf(14))
	broken := x
	broken.Pixels[63] = 4
	for range 5 {
		if impl.FlipTile(x, true, false) != flipped(x, true, false) || impl.FlipTile(other, false, true) != flipped(other, false, true) {
			t.Error("flipped")
		}
		if impl.TurnTile(x) != turned(x) || impl.TurnTile(other) != turned(other) || impl.TurnTile(broken) != (impl.Tile{}) {
			t.Error("turned")
		}
		if impl.UsedValues(x) != 15 || impl.UsedValues(other) != 14 || impl.UsedValues(broken) != 0 {
			t.Error("used")
		}
		checkBothWays(t, x, bytesOfTile(x))
		checkBothWays(t, other, bytesOfTile(other))
	}
}

func TestP51FourTurnsChangeNothing(t *testing.T) {
	forTiles(func(x impl.Tile) {
		y := x
		for turn := 1; turn <= 4; turn++ {
			before := y
			y = impl.TurnTile(y)
			if y != turned(before) || !impl.TileValid(y) {
				t.Fatal("turned", turn, before, y)
			}
			if impl.UsedValues(y) != impl.UsedValues(x) {
				t.Fatal("used", turn, x, impl.UsedValues(x), impl.UsedValues(y))
			}
		}
		if y != x {
			t.Fatal("four", x, y)
		}
	})
}

func TestP51FlippingAcrossAndTurningIsItsOwnOpposite(t *testing.T) {
	change := func(x impl.Tile) impl.Tile { return impl.TurnTile(impl.FlipTile(x, true, false)) }
	forTiles(func(x impl.Tile) {
		if y := change(change(x)); y != x {
			t.Fatal(x, y)
		}
	})
}

func TestP51FlippingKeepsUsedValues(t *testing.T) {
	forTiles(func(x impl.Tile) {
		forFlips(func(across bool, down bool) {
			if impl.UsedValues(impl.FlipTile(x, across, down)) != impl.UsedValues(x) {
				t.Fatal(across, down, x)
			}
		})
	})
}

// TestP51SinglePixels names the place to which every pixel comes: clockwise, and not back to its own place before the fourth turn.
func TestP51SinglePixels(t *testing.T) {
	forSinglePixels(func(x impl.Tile, place int, value int, around int) {
		column, row := place%8, place/8
		for turn, to := range []int{8*column + 7 - row, 63 - place, 8*(7-column) + row, place} {
			x = impl.TurnTile(x)
			want := plainTile(around)
			want.Pixels[to] = value
			if x != want || (to == place) != (turn == 3) {
				t.Fatal(place, value, around, turn, x)
			}
		}
	})
}

func TestP51TurnsWorkedOutByHand(t *testing.T) {
	x := tileOf("01230000", "10000000", "20000000", "30000000", "00000001", "00000012", "00000123", "11112222")
	for turn, want := range []impl.Tile{
		tileOf("10003210", "10000001", "10000002", "10000003", "20000000", "21000000", "22100000", "23210000"),
		tileOf("22221111", "32100000", "21000000", "10000000", "00000003", "00000002", "00000001", "00003210"),
		tileOf("00001232", "00000122", "00000012", "00000002", "30000001", "20000001", "10000001", "01230001"),
		x,
	} {
		before := x
		x = impl.TurnTile(x)
		if x != want {
			t.Error(turn, before, x)
		}
	}
}

func TestP51TilesOfOneValue(t *testing.T) {
	for value := 0; value <= 3; value++ {
		if y := impl.TurnTile(plainTile(value)); y != plainTile(value) {
			t.Error(value, y)
		}
	}
}

func TestP51OtherTilesAreNotTurned(t *testing.T) {
	forBrokenTiles(func(x impl.Tile) {
		if y := impl.TurnTile(x); y != (impl.Tile{}) {
			t.Fatal(x, y)
		}
	})
}

func TestP52UsedValuesOccur(t *testing.T) {
	forTiles(func(x impl.Tile) {
		used := impl.UsedValues(x)
		if used < 1 || used > 15 {
			t.Fatal("range", x, used)
		}
		digits := digitsOf(used)
		for value := 0; value <= 3; value++ {
			if (digits[value] == 1) != slices.Contains(x.Pixels[:], value) {
				t.Fatal("value", value, x, used)
			}
		}
	})
}

func TestP52EveryChoiceOfValues(t *testing.T) {
	forUses(func(x impl.Tile, used int) {
		if got := impl.UsedValues(x); got != used {
			t.Fatal(x, "wanted", used, "got", got)
		}
	})
}

func TestP52TilesWithOneValue(t *testing.T) {
	for value, power := range []int{1, 2, 4, 8} {
		if used := impl.UsedValues(plainTile(value)); used != power {
			t.Error(value, used)
		}
	}
}

// TestP52SinglePixels: a single pixel is enough, and takes nothing away from the others.
func TestP52SinglePixels(t *testing.T) {
	powers := [4]int{1, 2, 4, 8}
	forSinglePixels(func(x impl.Tile, place int, value int, around int) {
		if used := impl.UsedValues(x); used != powers[value]+powers[around] {
			t.Fatal(place, value, around, used)
		}
	})
}

func TestP52OtherTilesUseNothing(t *testing.T) {
	forBrokenTiles(func(x impl.Tile) {
		if used := impl.UsedValues(x); used != 0 {
			t.Fatal(x, used)
		}
	})
}

// checkPlanes wants a plane to be zeros exactly if no pixel has a digit in it.
func checkPlanes(t *testing.T, x impl.Tile, low bool, high bool) {
	t.Helper()
	list, zeros := impl.TileBytes(x), make([]int, 8)
	if len(list) != 16 || slices.Equal(list[:8], zeros) == low || slices.Equal(list[8:], zeros) == high {
		t.Fatal(x, low, high, list)
	}
}

func TestP118PlanesAreIndependent(t *testing.T) {
	forUses(func(x impl.Tile, used int) {
		has := digitsOf(used)
		checkPlanes(t, x, has[1]+has[3] > 0, has[2]+has[3] > 0)
	})
}

func TestP118SinglePixels(t *testing.T) {
	forSinglePixels(func(x impl.Tile, place int, value int, around int) {
		checkPlanes(t, x, value%2+around%2 > 0, value/2+around/2 > 0)
	})
	for value := 0; value <= 3; value++ {
		checkPlanes(t, plainTile(value), value%2 > 0, value/2 > 0)
	}
}

// TestP118EveryRow has all rows of 0 and 1 as bytes of the first plane, and the same of 0 and 2 as bytes of the second one.
func TestP118EveryRow(t *testing.T) {
	for row := range 8 {
		for a := 0; a <= 255; a++ {
			var x, y impl.Tile
			for column := range 8 {
				digit := digitsOf(a)[7-column]
				x.Pixels[8*row+column] = digit
				y.Pixels[8*row+column] = 2 * digit
			}
			first, second := make([]int, 16), make([]int, 16)
			first[row], second[8+row] = a, a
			checkBothWays(t, x, first)
			checkBothWays(t, y, second)
		}
	}
}

// TestP118ChangingOnePlane: the lower digits of the pixels do not change with the last eight bytes, nor the higher ones with the first eight.
func TestP118ChangingOnePlane(t *testing.T) {
	forUses(func(x impl.Tile, used int) {
		list := impl.TileBytes(x)
		if len(list) != 16 {
			t.Fatal(x, list)
		}
		for i := range 16 {
			changed := slices.Clone(list)
			changed[i] = 255 - changed[i]
			y, ok := impl.ReadTile(changed)
			if !ok {
				t.Fatal(changed)
			}
			for place, pixel := range x.Pixels {
				want := pixel
				if place/8 == i%8 {
					// In both planes a byte that is turned over turns one digit of each pixel of its row over.
					want ^= 1 << (i / 8)
				}
				if y.Pixels[place] != want {
					t.Fatal(x, i, place, y)
				}
			}
		}
	})
}

func TestP118OtherTilesHaveNoPlanes(t *testing.T) {
	// These would use only 0 and 1, or only 0 and 2, if the higher digits of the pixel did not matter.
	for place := range 64 {
		for value := 0; value <= 2; value++ {
			for _, bad := range []int{4, 5, 6, 8, -4, -3, -2, 256, 257, 258} {
				x := plainTile(value)
				x.Pixels[place] = bad
				if list := impl.TileBytes(x); len(list) != 0 {
					t.Error(place, value, bad, list)
				}
			}
		}
	}
}

func TestP119TurnedRowsAreColumns(t *testing.T) {
	forTiles(func(x impl.Tile) {
		y := impl.TurnTile(x)
		for row := range 8 {
			for column := range 8 {
				if y.Pixels[8*row+column] != x.Pixels[8*(7-column)+row] {
					t.Fatal(row, column, x, y)
				}
			}
		}
	})
}

func TestP119FirstRowsWorkedOutByHand(t *testing.T) {
	for _, c := range []struct {
		x    impl.Tile
		want [8]int
	}{
		{plainTile(3), [8]int{3, 3, 3, 3, 3, 3, 3, 3}},
		{plainTile(0), [8]int{}},
		{tileOf("33333333", "00000000", "00000000", "00000000", "00000000", "00000000", "00000000", "00000000"), [8]int{0, 0, 0, 0, 0, 0, 0, 3}},
		{tileOf("00000000", "00000000", "00000000", "00000000", "00000000", "00000000", "00000000", "22222222"), [8]int{2, 0, 0, 0, 0, 0, 0, 0}},
		{tileOf("00000001", "10000001", "20000001", "30000001", "00000001", "10000001", "20000001", "30000001"), [8]int{3, 2, 1, 0, 3, 2, 1, 0}},
		{tileOf("10203021", "20301212", "01230123", "33000000", "00000000", "10000000", "10000000", "20000000"), [8]int{2, 1, 1, 0, 3, 0, 2, 1}},
	} {
		if y := impl.TurnTile(c.x); [8]int(y.Pixels[:8]) != c.want {
			t.Error(c.x, y)
		}
	}
}

// TestP119EveryFirstColumn has all columns of two values, for each two values.
func TestP119EveryFirstColumn(t *testing.T) {
	for zero := 0; zero <= 3; zero++ {
		for one := 0; one <= 3; one++ {
			for a := 0; a <= 255; a++ {
				x := mixedTile(a, valuesOf(15))
				for row, digit := range digitsOf(a) {
					x.Pixels[8*row] = [2]int{zero, one}[digit]
				}
				y := impl.TurnTile(x)
				for column := range 8 {
					if y.Pixels[column] != x.Pixels[8*(7-column)] {
						t.Fatal(column, x, y)
					}
				}
			}
		}
	}
}

func TestP119OtherTilesHaveNoRows(t *testing.T) {
	for place := range 64 {
		for _, bad := range []int{-1, 4} {
			x := mixedTile(place, valuesOf(15))
			x.Pixels[place] = bad
			if y := impl.TurnTile(x); y != (impl.Tile{}) {
				t.Error(place, bad, y)
			}
		}
	}
}
