package tests

import (
	"math"
	"slices"
	"strconv"
	"testing"

	"loop.example/homeconsole/impl"
)

// notWidths has numbers that no table has as columns, also some that would wrap to one that a table has.
var notWidths = []int{-1, -2, -3, -4, -7, -8, -9, -64, -256, 0, 9, 10, 12, 16, 32, 64, 72, 128, 256, 257, 264, 1<<32 + 2, -(1 << 32) + 2, 1 << 61, math.MaxInt, math.MinInt, math.MinInt + 2}

// notShifts has numbers that no background can be shifted by, also some that would be shifts modulo the size of a table.
var notShifts = []int{
	-1, -2, -7, -8, -16, -64, -128, -254, -255, -256, -257, -512, -65536,
	256, 257, 263, 264, 320, 511, 512, 65536, 65536 + 8,
	1<<32 + 5, 1 << 32, -(1 << 32), -(1 << 32) + 5, math.MaxInt - 64, math.MaxInt, math.MinInt, math.MinInt + 64,
}

// notColumns and notLines have numbers outside the picture, also some that would be inside a table, with or without a shift.
var (
	notColumns = []int{-1, -2, -7, -8, -16, -31, -32, -64, -255, -256, 32, 33, 39, 40, 63, 64, 255, 256, 1<<32 + 3, -(1 << 32) + 3, math.MaxInt - 255, math.MaxInt, math.MinInt, math.MinInt + 8}
	notLines   = []int{-1, -2, -7, -8, -15, -16, -32, -64, -255, -256, 16, 17, 23, 24, 31, 32, 63, 64, 255, 256, 1<<32 + 3, -(1 << 32) + 3, math.MaxInt - 255, math.MaxInt, math.MinInt, math.MinInt + 8}
)

// edgeShifts are the ends, the places at which tiles and tables end, and places inside a tile.
var edgeShifts = []int{0, 1, 7, 8, 9, 31, 32, 56, 63, 64, 65, 100, 127, 128, 191, 192, 247, 248, 254, 255}

var (
	edgeColumns = []int{0, 1, 7, 8, 30, 31}
	edgeLines   = []int{0, 1, 7, 8, 14, 15}
)

// picture has all pixels that are shown, line by line.
type picture [16][32]int

// tilesOf makes tiles that are all different, each with all four values.
func tilesOf(n int) []impl.Tile {
	var tiles []impl.Tile
	for number := range n {
		tiles = append(tiles, mixedTile(50+number, valuesOf(15)))
	}
	return tiles
}

// fieldOf has mixed numbers in its table; as far as there is room, every tile is there, the last one first.
func fieldOf(w int, rows int, tiles int) impl.Field {
	next := mixed(1000*w + 100*rows + tiles)
	table := make([]int, w*rows)
	for place := range table {
		table[place] = next(tiles)
		if place < tiles {
			table[place] = tiles - 1 - place
		}
	}
	return impl.Field{W: w, Map: table, Tiles: tilesOf(tiles)}
}

func shifted(f impl.Field, x int, y int) impl.Field {
	f.ShiftX, f.ShiftY = x, y
	return f
}

func deepField(f impl.Field) impl.Field {
	f.Map, f.Tiles = slices.Clone(f.Map), slices.Clone(f.Tiles)
	return f
}

func sameField(a impl.Field, b impl.Field) bool {
	return a.W == b.W && slices.Equal(a.Map, b.Map) && slices.Equal(a.Tiles, b.Tiles) && a.ShiftX == b.ShiftX && a.ShiftY == b.ShiftY
}

func isNoField(f impl.Field) bool {
	return f.W == 0 && len(f.Map) == 0 && len(f.Tiles) == 0 && f.ShiftX == 0 && f.ShiftY == 0
}

// nameOf tells what a failing test needs of a background: with the tiles it would fill the screen.
func nameOf(f impl.Field) string {
	name := "columns " + strconv.Itoa(f.W) + ", tiles " + strconv.Itoa(len(f.Tiles))
	name += ", shifts " + strconv.Itoa(f.ShiftX) + " " + strconv.Itoa(f.ShiftY) + ", table"
	for _, number := range f.Map {
		name += " " + strconv.Itoa(number)
	}
	return name
}

// forSizes calls a check for every number of columns and rows.
func forSizes(check func(w int, rows int)) {
	for w := 1; w <= 8; w++ {
		for rows := 1; rows <= 8; rows++ {
			check(w, rows)
		}
	}
}

// forFields calls a check for backgrounds of every size with one, a few and the most tiles, each with shifts inside its table, at its ends and beyond it.
func forFields(check func(f impl.Field)) {
	forSizes(func(w int, rows int) {
		for _, tiles := range []int{1, 2, 5, 16} {
			f := fieldOf(w, rows, tiles)
			for _, shifts := range [][2]int{{0, 0}, {3, 0}, {0, 5}, {8*w - 1, 8*rows - 1}, {8 * w, 8 * rows}, {8*w + 1, 8*rows + 9}, {77, 190}, {255, 255}} {
				check(shifted(f, shifts[0], shifts[1]))
			}
		}
	})
}

// paintingOf is the whole table, painted tile after tile, without shifts.
func paintingOf(f impl.Field) [][]int {
	var rows [][]int
	for start := 0; start < len(f.Map); start += f.W {
		for down := range 8 {
			var row []int
			for _, number := range f.Map[start : start+f.W] {
				row = append(row, f.Tiles[number].Pixels[8*down:8*down+8]...)
			}
			rows = append(rows, row)
		}
	}
	return rows
}

// shown is what can be seen of a painting when it is shifted; written from the document, to check the program against something that is not the program.
func shown(painting [][]int, shiftX int, shiftY int) picture {
	var all picture
	for y := range all {
		row := painting[(y+shiftY)%len(painting)]
		for x := range all[y] {
			all[y][x] = row[(x+shiftX)%len(row)]
		}
	}
	return all
}

func pictureOf(f impl.Field) picture {
	return shown(paintingOf(f), f.ShiftX, f.ShiftY)
}

// pixelsOf is the picture as FieldPixel tells it.
func pixelsOf(f impl.Field) picture {
	var all picture
	for y := range all {
		for x := range all[y] {
			all[y][x] = impl.FieldPixel(f, x, y)
		}
	}
	return all
}

// checkLines wants all lines of a background to be those of a picture.
func checkLines(t *testing.T, f impl.Field, want *picture) {
	t.Helper()
	for y := range want {
		if got := impl.FieldLine(f, y); !slices.Equal(got, want[y][:]) {
			t.Fatal(nameOf(f), "line", y, "wanted", want[y], "got", got)
		}
	}
}

// checkPixels wants all pixels of a background to be those of a picture.
func checkPixels(t *testing.T, f impl.Field, want *picture) {
	t.Helper()
	for y := range want {
		for x, pixel := range want[y] {
			if got := impl.FieldPixel(f, x, y); got != pixel {
				t.Fatal(nameOf(f), "column", x, "line", y, "wanted", pixel, "got", got)
			}
		}
	}
}

// brokenTables has backgrounds whose table has no rows, incomplete or too many rows, or other numbers than those of tiles.
func brokenTables() map[string]impl.Field {
	broken := map[string]impl.Field{}
	for _, good := range []impl.Field{fieldOf(1, 1, 1), fieldOf(1, 8, 2), fieldOf(2, 3, 4), fieldOf(8, 1, 3), fieldOf(8, 8, 16)} {
		put := func(name string, w int, table []int) {
			f := good
			f.W, f.Map = w, table
			broken[name+" of "+nameOf(good)] = f
		}
		size := len(good.Map)
		put("nil", good.W, nil)
		put("empty", good.W, []int{})
		put("nine rows", good.W, make([]int, 9*good.W))
		put("sixteen rows", good.W, make([]int, 16*good.W))
		for extra := 1; extra < good.W; extra++ {
			put("incomplete "+strconv.Itoa(extra), good.W, good.Map[:extra])
			put("last row incomplete "+strconv.Itoa(extra), good.W, good.Map[:size-extra])
			put("ninth row incomplete "+strconv.Itoa(extra), good.W, make([]int, 8*good.W+extra))
		}
		for _, w := range notWidths {
			name := "columns " + strconv.Itoa(w)
			put(name, w, good.Map)
			put(name+" nil", w, nil)
			for _, rows := range []int{1, 2, 8} {
				// These would be complete rows if there could be so many columns, or fewer than none.
				put(name+" rows "+strconv.Itoa(rows), w, make([]int, min(max(w, -w, 0), 300)*rows))
			}
		}
		for place := range size {
			for _, number := range []int{-1, len(good.Tiles), -len(good.Tiles), -256, 256, 1 << 32, math.MaxInt, math.MinInt} {
				table := slices.Clone(good.Map)
				table[place] = number
				put("number "+strconv.Itoa(number)+" at "+strconv.Itoa(place), good.W, table)
			}
		}
	}
	return broken
}

// brokenTileLists has backgrounds with no tiles, with too many, or with an invalid one.
func brokenTileLists() map[string]impl.Field {
	broken := map[string]impl.Field{}
	for _, good := range []impl.Field{fieldOf(1, 1, 1), fieldOf(3, 2, 2), fieldOf(8, 8, 16), fieldOf(1, 1, 16)} {
		put := func(name string, tiles []impl.Tile) {
			f := good
			f.Tiles = tiles
			broken[name+" of "+nameOf(good)] = f
		}
		put("nil", nil)
		put("empty", []impl.Tile{})
		put("seventeen", tilesOf(17))
		put("forty", tilesOf(40))
		for number := range good.Tiles {
			for i, bad := range notPixels {
				tiles := slices.Clone(good.Tiles)
				tiles[number].Pixels[(7*number+5*i)%64] = bad
				put("tile "+strconv.Itoa(number)+" with "+strconv.Itoa(bad), tiles)
			}
			for _, place := range []int{0, 7, 31, 56, 63} {
				tiles := slices.Clone(good.Tiles)
				tiles[number].Pixels[place] = 4
				put("tile "+strconv.Itoa(number)+" with 4 at "+strconv.Itoa(place), tiles)
				tiles = slices.Clone(tiles)
				tiles[number].Pixels[place] = -1
				put("tile "+strconv.Itoa(number)+" with -1 at "+strconv.Itoa(place), tiles)
			}
		}
	}
	return broken
}

// brokenShifts has backgrounds of which one shift or both are not valid.
func brokenShifts() map[string]impl.Field {
	broken := map[string]impl.Field{}
	for _, good := range []impl.Field{fieldOf(1, 1, 1), fieldOf(3, 2, 2), fieldOf(8, 8, 16)} {
		put := func(x int, y int) {
			f := shifted(good, x, y)
			broken[nameOf(f)] = f
		}
		for _, bad := range notShifts {
			for _, fine := range []int{0, 1, 100, 255} {
				put(bad, fine)
				put(fine, bad)
			}
			put(bad, bad)
			put(bad, -1)
			put(256, bad)
		}
	}
	return broken
}

// brokenFields has backgrounds that differ from a valid one in one part, and nothing.
func brokenFields() map[string]impl.Field {
	broken := map[string]impl.Field{"nothing": {}, "only columns": {W: 1}, "no table": {W: 1, Tiles: tilesOf(1)}, "no tiles": {W: 1, Map: []int{0}}}
	for _, some := range []map[string]impl.Field{brokenTables(), brokenTileLists(), brokenShifts()} {
		for name, f := range some {
			broken[name] = f
		}
	}
	return broken
}

func TestP58BackgroundsHaveCompleteRows(t *testing.T) {
	forFields(func(f impl.Field) {
		if !impl.FieldValid(f) {
			t.Fatal("valid", nameOf(f))
		}
		short := f
		short.Map = f.Map[:len(f.Map)-1]
		// With one column every row has one number only, so the others are still complete.
		complete := f.W == 1 && len(f.Map) > 1
		if impl.FieldValid(short) != complete {
			t.Fatal("without the last number", nameOf(f))
		}
		short.Map = slices.Clip(short.Map)
		if impl.FieldValid(short) != complete {
			t.Fatal("without spare capacity", nameOf(f))
		}
		for place := range f.Map {
			for _, unknown := range []int{-1, len(f.Tiles)} {
				other := deepField(f)
				other.Map[place] = unknown
				if impl.FieldValid(other) {
					t.Fatal("unknown tile", place, unknown, nameOf(f))
				}
			}
		}
	})
}

// TestP58EveryLengthOfTables has all lengths with all numbers of columns around those that are valid.
func TestP58EveryLengthOfTables(t *testing.T) {
	for w := -20; w <= 90; w++ {
		for n := 0; n <= 200; n++ {
			want := false
			for rows := 1; rows <= 8; rows++ {
				want = want || w >= 1 && w <= 8 && n == w*rows
			}
			if impl.FieldValid(impl.Field{W: w, Map: make([]int, n), Tiles: tilesOf(1)}) != want {
				t.Fatal("columns", w, "numbers", n)
			}
		}
	}
}

// TestP58EveryNumberOfTheTable goes past each end by single numbers, in any place of the table, with any number of tiles.
func TestP58EveryNumberOfTheTable(t *testing.T) {
	for tiles := 1; tiles <= 16; tiles++ {
		for _, size := range [][2]int{{1, 1}, {1, 8}, {8, 1}, {3, 4}, {8, 8}} {
			f := fieldOf(size[0], size[1], tiles)
			for place, good := range f.Map {
				for number := -20; number <= 40; number++ {
					f.Map[place] = number
					if impl.FieldValid(f) != (number >= 0 && number < tiles) {
						t.Fatal("tiles", tiles, "place", place, "number", number, size)
					}
				}
				f.Map[place] = good
			}
		}
	}
}

func TestP58EveryNumberOfTiles(t *testing.T) {
	forSizes(func(w int, rows int) {
		for n := 0; n <= 40; n++ {
			f := impl.Field{W: w, Map: make([]int, w*rows), Tiles: tilesOf(n)}
			if impl.FieldValid(f) != (n >= 1 && n <= 16) {
				t.Fatal("columns", w, "rows", rows, "tiles", n)
			}
		}
	})
}

// TestP58EveryTileIsValid has an invalid pixel in any place of any tile, also of a tile that is not in the table.
func TestP58EveryTileIsValid(t *testing.T) {
	for tiles := 1; tiles <= 16; tiles++ {
		for _, used := range []int{0, tiles - 1} {
			f := impl.Field{W: 1, Map: []int{used}, Tiles: tilesOf(tiles)}
			for number := range f.Tiles {
				for place, good := range f.Tiles[number].Pixels {
					for _, pixel := range []int{-1, 4, 0, 3} {
						f.Tiles[number].Pixels[place] = pixel
						if impl.FieldValid(f) != (pixel >= 0 && pixel <= 3) {
							t.Fatal("tiles", tiles, "tile", number, "place", place, "pixel", pixel)
						}
					}
					f.Tiles[number].Pixels[place] = good
				}
			}
		}
	}
}

// TestP58EveryShift goes past each end by single numbers, with both shifts.
func TestP58EveryShift(t *testing.T) {
	inside := func(n int) bool { return n >= 0 && n <= 255 }
	for _, f := range []impl.Field{fieldOf(1, 1, 1), fieldOf(2, 7, 3), fieldOf(8, 8, 16)} {
		for n := -600; n <= 600; n++ {
			for _, other := range []int{-1, 0, 1, 128, 255, 256} {
				want := inside(n) && inside(other)
				if impl.FieldValid(shifted(f, n, other)) != want || impl.FieldValid(shifted(f, other, n)) != want {
					t.Fatal(n, other, nameOf(f))
				}
			}
		}
	}
}

// TestP58EqualTiles: tiles may be equal, of one value, or missing in the table.
func TestP58EqualTiles(t *testing.T) {
	for n := 1; n <= 16; n++ {
		for value := 0; value <= 3; value++ {
			for number := range n {
				f := impl.Field{W: 2, Map: []int{number, number}, Tiles: slices.Repeat([]impl.Tile{plainTile(value)}, n)}
				if !impl.FieldValid(f) || impl.FieldPixel(f, 31, 15) != value {
					t.Error(n, value, number)
				}
			}
		}
	}
}

func TestP58OtherBackgrounds(t *testing.T) {
	for name, f := range brokenFields() {
		if impl.FieldValid(f) {
			t.Error(name)
		}
	}
}

// TestP58SpareCapacity has valid rows and tiles behind the ends of the lists: what lies there belongs to no list.
func TestP58SpareCapacity(t *testing.T) {
	full := fieldOf(4, 8, 16)
	for n := range full.Map {
		f := full
		f.Map = full.Map[:n]
		if impl.FieldValid(f) != (n > 0 && n%4 == 0) {
			t.Error("table", n)
		}
	}
	for n := range full.Tiles {
		f := impl.Field{W: 1, Map: []int{n}, Tiles: full.Tiles[:n]}
		if impl.FieldValid(f) || impl.FieldPixel(f, 0, 0) != -1 || len(impl.FieldLine(f, 0)) != 0 {
			t.Error("tiles", n)
		}
	}
}

// checkValues wants all pixels to be in 0..3 and to be those of the document's rule.
func checkValues(t *testing.T, f impl.Field) {
	t.Helper()
	want := pictureOf(f)
	checkPixels(t, f, &want)
	for y := range want {
		for x := range want[y] {
			if pixel := impl.FieldPixel(f, x, y); pixel < 0 || pixel > 3 {
				t.Fatal(nameOf(f), x, y, pixel)
			}
		}
	}
}

func TestP59PixelsFollowTheRule(t *testing.T) {
	forFields(func(f impl.Field) { checkValues(t, f) })
}

// TestP59EveryCorner has all shifts at the corners of the picture and beside them.
func TestP59EveryCorner(t *testing.T) {
	for _, size := range [][2]int{{1, 1}, {2, 1}, {1, 3}, {5, 7}, {8, 8}} {
		f := fieldOf(size[0], size[1], 3)
		painting := paintingOf(f)
		for shift := 0; shift <= 255; shift++ {
			for _, other := range edgeShifts {
				for _, g := range []impl.Field{shifted(f, shift, other), shifted(f, other, shift)} {
					want := shown(painting, g.ShiftX, g.ShiftY)
					for _, y := range edgeLines {
						for _, x := range edgeColumns {
							if got := impl.FieldPixel(g, x, y); got != want[y][x] {
								t.Fatal(nameOf(g), x, y, "wanted", want[y][x], "got", got)
							}
						}
					}
				}
			}
		}
	}
}

// TestP59SinglePixels has a single pixel in one tile of the table, and names where it is seen: once in every table's width and height.
func TestP59SinglePixels(t *testing.T) {
	for _, size := range [][2]int{{1, 1}, {2, 2}, {3, 1}, {4, 2}, {8, 8}} {
		w, rows := size[0], size[1]
		for cell := range w * rows {
			f := impl.Field{W: w, Map: make([]int, w*rows), Tiles: []impl.Tile{plainTile(1), plainTile(1)}, ShiftX: 250, ShiftY: 13}
			f.Map[cell] = 1
			for _, place := range []int{0, 7, 8, 20, 43, 56, 63} {
				f.Tiles[1] = plainTile(1)
				f.Tiles[1].Pixels[place] = 2
				all := pixelsOf(f)
				for y := range all {
					for x, pixel := range all[y] {
						here := (x+250-8*(cell%w)-place%8)%(8*w) == 0 && (y+13-8*(cell/w)-place/8)%(8*rows) == 0
						if pixel != 1+digit(here) {
							t.Fatal(size, "cell", cell, "place", place, "at", x, y, pixel)
						}
					}
				}
			}
		}
	}
}

func checkNoPixel(t *testing.T, f impl.Field, x int, y int) {
	t.Helper()
	if got := impl.FieldPixel(f, x, y); got != -1 {
		t.Fatal(nameOf(f), x, y, got)
	}
}

func TestP59PlacesOutsideThePicture(t *testing.T) {
	for _, size := range [][2]int{{1, 1}, {3, 5}, {8, 8}} {
		f := fieldOf(size[0], size[1], 4)
		for _, shifts := range [][2]int{{0, 0}, {1, 1}, {255, 255}, {255, 0}, {0, 255}} {
			g := shifted(f, shifts[0], shifts[1])
			for _, x := range notColumns {
				for _, y := range slices.Concat(edgeLines, notLines) {
					checkNoPixel(t, g, x, y)
				}
			}
			for _, y := range notLines {
				for _, x := range edgeColumns {
					checkNoPixel(t, g, x, y)
				}
			}
			for x := -300; x <= 300; x++ {
				for y := -20; y <= 40; y++ {
					inside := x >= 0 && x < 32 && y >= 0 && y < 16
					if (impl.FieldPixel(g, x, y) == -1) == inside {
						t.Fatal(nameOf(g), x, y)
					}
				}
			}
		}
	}
}

func TestP59OtherBackgroundsHaveNoPixels(t *testing.T) {
	for _, f := range brokenFields() {
		for _, y := range []int{0, 5, 15, -1, 16} {
			for _, x := range []int{0, 12, 31, -1, 32} {
				checkNoPixel(t, f, x, y)
			}
		}
	}
}

func TestP60LinesConsistOfPixels(t *testing.T) {
	forFields(func(f impl.Field) {
		before := deepField(f)
		for y := range 16 {
			line := impl.FieldLine(f, y)
			if len(line) != 32 {
				t.Fatal("pixels", nameOf(f), y, len(line))
			}
			for x, pixel := range line {
				if impl.FieldPixel(f, x, y) != pixel {
					t.Fatal(nameOf(f), x, y, pixel)
				}
			}
		}
		want := pictureOf(f)
		checkLines(t, f, &want)
		if !sameField(f, before) {
			t.Fatal("changed", nameOf(f))
		}
	})
}

// TestP60EveryShift has all shifts in each direction for tables of every size.
func TestP60EveryShift(t *testing.T) {
	forSizes(func(w int, rows int) {
		f := fieldOf(w, rows, 3)
		painting := paintingOf(f)
		for shift := 0; shift <= 255; shift++ {
			for _, other := range []int{0, 255 - shift, 8 * w, 8*rows - 1} {
				for _, g := range []impl.Field{shifted(f, shift, other), shifted(f, other, shift)} {
					want := shown(painting, g.ShiftX, g.ShiftY)
					checkLines(t, g, &want)
				}
			}
		}
	})
}

// TestP60AnyTwoShifts has all pairs of shifts for a few tables.
func TestP60AnyTwoShifts(t *testing.T) {
	for _, size := range [][2]int{{3, 2}, {8, 8}} {
		f := fieldOf(size[0], size[1], 2)
		painting := paintingOf(f)
		forBytePairs(func(x int, y int) {
			want := shown(painting, x, y)
			checkLines(t, shifted(f, x, y), &want)
		})
	}
}

func digitsLine(text string) []int {
	var line []int
	for _, c := range text {
		line = append(line, int(c-'0'))
	}
	return line
}

func TestP60LinesWorkedOutByHand(t *testing.T) {
	tiles := []impl.Tile{
		tileOf("01230123", "33221100", "00000001", "10000000", "00000002", "20000000", "12121212", "00033000"),
		plainTile(2),
		tileOf("11111111", "10000003", "10000003", "10000003", "10000003", "10000003", "10000003", "33333333"),
	}
	wide := impl.Field{W: 2, Map: []int{0, 2}, Tiles: tiles}
	high := impl.Field{W: 1, Map: []int{0, 1, 2}, Tiles: tiles}
	large := impl.Field{W: 8, Map: slices.Repeat([]int{2, 1, 1, 1, 0, 1, 1, 0}, 8), Tiles: tiles}
	for _, c := range []struct {
		f    impl.Field
		y    int
		line string
	}{
		{wide, 0, "01230123" + "11111111" + "01230123" + "11111111"},
		{wide, 1, "33221100" + "10000003" + "33221100" + "10000003"},
		{wide, 7, "00033000" + "33333333" + "00033000" + "33333333"},
		{wide, 8, "01230123" + "11111111" + "01230123" + "11111111"},
		{wide, 15, "00033000" + "33333333" + "00033000" + "33333333"},
		{shifted(wide, 3, 0), 0, "30123" + "11111111" + "01230123" + "11111111" + "012"},
		{shifted(wide, 8, 0), 1, "10000003" + "33221100" + "10000003" + "33221100"},
		{shifted(wide, 16, 0), 1, "33221100" + "10000003" + "33221100" + "10000003"},
		{shifted(wide, 255, 0), 0, "1" + "01230123" + "11111111" + "01230123" + "1111111"},
		{shifted(wide, 255, 255), 0, "3" + "00033000" + "33333333" + "00033000" + "3333333"},
		{shifted(wide, 255, 255), 2, "3" + "33221100" + "10000003" + "33221100" + "1000000"},
		{high, 0, "01230123" + "01230123" + "01230123" + "01230123"},
		{high, 8, "22222222" + "22222222" + "22222222" + "22222222"},
		{shifted(high, 0, 10), 5, "22222222" + "22222222" + "22222222" + "22222222"},
		{shifted(high, 0, 10), 6, "11111111" + "11111111" + "11111111" + "11111111"},
		{shifted(high, 0, 10), 7, "10000003" + "10000003" + "10000003" + "10000003"},
		{shifted(high, 2, 10), 15, "221100" + "33221100" + "33221100" + "33221100" + "33"},
		{shifted(high, 0, 255), 0, "22222222" + "22222222" + "22222222" + "22222222"},
		{shifted(high, 9, 255), 2, "0000003" + "10000003" + "10000003" + "10000003" + "1"},
		{shifted(high, 7, 255), 9, "3" + "01230123" + "01230123" + "01230123" + "0123012"},
		{large, 1, "10000003" + "22222222" + "22222222" + "22222222"},
		{shifted(large, 32, 0), 9, "33221100" + "22222222" + "22222222" + "33221100"},
		{shifted(large, 255, 0), 1, "0" + "10000003" + "22222222" + "22222222" + "2222222"},
		{shifted(large, 62, 63), 2, "00" + "10000003" + "22222222" + "22222222" + "222222"},
		{shifted(large, 64, 64), 0, "11111111" + "22222222" + "22222222" + "22222222"},
	} {
		if got := impl.FieldLine(c.f, c.y); !slices.Equal(got, digitsLine(c.line)) {
			t.Error(nameOf(c.f), c.y, got)
		}
		for x, pixel := range digitsLine(c.line) {
			if got := impl.FieldPixel(c.f, x, c.y); got != pixel {
				t.Error("pixel", nameOf(c.f), x, c.y, got)
			}
		}
	}
}

func checkNoLine(t *testing.T, f impl.Field, y int) {
	t.Helper()
	if line := impl.FieldLine(f, y); len(line) != 0 {
		t.Fatal(nameOf(f), y, line)
	}
}

func TestP60LinesOutsideThePicture(t *testing.T) {
	for _, size := range [][2]int{{1, 1}, {3, 5}, {8, 8}} {
		for _, shift := range []int{0, 1, 128, 255} {
			f := shifted(fieldOf(size[0], size[1], 4), shift, shift)
			for _, y := range notLines {
				checkNoLine(t, f, y)
			}
			for y := -300; y <= 300; y++ {
				if n := len(impl.FieldLine(f, y)); n != 32*digit(y >= 0 && y < 16) {
					t.Fatal(nameOf(f), y, n)
				}
			}
		}
	}
}

func TestP60OtherBackgroundsHaveNoLines(t *testing.T) {
	for _, f := range brokenFields() {
		for _, y := range []int{0, 1, 8, 15, -1, 16} {
			checkNoLine(t, f, y)
		}
	}
}

// TestP60LinesAreNewMemory overwrites lines, and what an append to them could reach: neither the tiles nor another line may change.
func TestP60LinesAreNewMemory(t *testing.T) {
	forFields(func(f impl.Field) {
		before := deepField(f)
		for y := range 16 {
			first, second := impl.FieldLine(f, y), impl.FieldLine(f, y)
			want := slices.Clone(second)
			spoilList(first)
			if !sameField(f, before) || !slices.Equal(second, want) || !slices.Equal(impl.FieldLine(f, y), want) {
				t.Fatal(nameOf(before), y)
			}
		}
	})
}

// TestP60ChangingTheBackgroundAfterwards: a line stays what it was.
func TestP60ChangingTheBackgroundAfterwards(t *testing.T) {
	f := shifted(fieldOf(3, 2, 4), 5, 6)
	want := pictureOf(f)
	var lines [][]int
	for y := range 16 {
		lines = append(lines, impl.FieldLine(f, y))
	}
	spoilList(f.Map)
	clear(f.Tiles)
	for y, line := range lines {
		if !slices.Equal(line, want[y][:]) {
			t.Error(y, line)
		}
	}
}

func TestP60CallsDependOnTheirArgumentsAlone(t *testing.T) {
	f, g := shifted(fieldOf(3, 2, 4), 5, 6), shifted(fieldOf(1, 8, 2), 255, 0)
	broken := shifted(f, 5, 256)
	first, second := pictureOf(f), pictureOf(g)
	for range 5 {
		checkLines(t, f, &first)
		checkNoLine(t, broken, 0)
		checkPixels(t, g, &second)
		checkNoPixel(t, broken, 0, 0)
		checkPixels(t, f, &first)
		checkLines(t, g, &second)
	}
}
