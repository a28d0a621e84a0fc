package tests

import (
	"math"
	"slices"
	"testing"

	"loop.example/homeconsole/impl"
)

// notShiftChanges has numbers by which a background cannot be shifted further, also some that would be none modulo the size of a table, or would lead back to a valid shift.
var notShiftChanges = []int{
	-256, -257, -263, -264, -320, -511, -512, -65536,
	256, 257, 263, 264, 320, 511, 512, 65536, 65536 + 8,
	1<<32 + 5, 1 << 32, -(1 << 32), -(1 << 32) + 5, math.MaxInt - 255, math.MaxInt, math.MinInt, math.MinInt + 255,
}

// edgeChanges are the ends, the places at which tiles and tables end, and places inside a tile.
var edgeChanges = []int{-255, -254, -129, -128, -65, -64, -63, -24, -9, -8, -7, -1, 0, 1, 5, 7, 8, 9, 24, 63, 64, 65, 128, 129, 254, 255}

// wrapped is written from the document: the number in 0..size-1 from which n differs by a multiple of the size.
func wrapped(n int, size int) int {
	for n < 0 {
		n += size
	}
	for n >= size {
		n -= size
	}
	return n
}

// moved is ShiftField, written from the document.
func moved(f impl.Field, dx int, dy int) impl.Field {
	return shifted(f, wrapped(f.ShiftX+dx, 8*f.W), wrapped(f.ShiftY+dy, 8*(len(f.Map)/f.W)))
}

// checkMoved wants a valid background to be shifted by a distance, and returns the result.
func checkMoved(t *testing.T, f impl.Field, dx int, dy int) impl.Field {
	t.Helper()
	got, want := impl.ShiftField(f, dx, dy), moved(f, dx, dy)
	if !sameField(got, want) {
		t.Fatal(nameOf(f), "by", dx, dy, "wanted", want.ShiftX, want.ShiftY, "got", nameOf(got))
	}
	return got
}

func checkNotMoved(t *testing.T, f impl.Field, dx int, dy int) {
	t.Helper()
	if got := impl.ShiftField(f, dx, dy); !isNoField(got) {
		t.Fatal(nameOf(f), "by", dx, dy, nameOf(got))
	}
}

// TestP59ShiftingByTheSizeOfTheTable also shifts by multiples of the size, as far as they are allowed, forward and back.
func TestP59ShiftingByTheSizeOfTheTable(t *testing.T) {
	forFields(func(f impl.Field) {
		width, height := 8*f.W, len(f.Map)/f.W*8
		want := pictureOf(f)
		for _, by := range [][2]int{{width, 0}, {-width, 0}, {0, height}, {0, -height}, {width, height}, {255 / width * width, -(255 / height * height)}} {
			g := impl.ShiftField(f, by[0], by[1])
			if f.ShiftX < width && f.ShiftY < height && !sameField(f, g) {
				t.Fatal("not the same", nameOf(f), by, nameOf(g))
			}
			if g.ShiftX != f.ShiftX%width || g.ShiftY != f.ShiftY%height {
				t.Fatal("shifts", nameOf(f), by, nameOf(g))
			}
			checkLines(t, g, &want)
		}
		checkPixels(t, impl.ShiftField(f, width, height), &want)
	})
}

// TestP59ShiftingByOnePixelMovesThePicture uses nothing but the promise: the pixel comes from the neighbouring place.
func TestP59ShiftingByOnePixelMovesThePicture(t *testing.T) {
	forFields(func(f impl.Field) {
		if len(f.Tiles) > 2 {
			return
		}
		before := pixelsOf(f)
		for _, by := range [][2]int{{1, 0}, {-1, 0}, {0, 1}, {0, -1}, {1, 1}, {-1, 1}} {
			after := pixelsOf(impl.ShiftField(f, by[0], by[1]))
			for y := max(0, -by[1]); y < min(16, 16-by[1]); y++ {
				for x := max(0, -by[0]); x < min(32, 32-by[0]); x++ {
					if after[y][x] != before[y+by[1]][x+by[0]] {
						t.Fatal(nameOf(f), by, x, y, after[y][x])
					}
				}
			}
		}
	})
}

// TestP59AroundTheTableInSteps shifts by one pixel so often that the picture has been moved around the whole table.
func TestP59AroundTheTableInSteps(t *testing.T) {
	for _, size := range [][2]int{{1, 1}, {2, 5}, {8, 8}} {
		start := shifted(fieldOf(size[0], size[1], 3), 4, 6)
		for _, by := range [][2]int{{1, 0}, {-1, 0}, {0, 1}, {0, -1}, {1, 1}, {-1, 1}} {
			f, painting := start, paintingOf(start)
			for step := 1; step <= 8*8*size[0]*size[1]; step++ {
				f = impl.ShiftField(f, by[0], by[1])
				want := shown(painting, wrapped(4+step*by[0], 8*size[0]), wrapped(6+step*by[1], 8*size[1]))
				checkLines(t, f, &want)
			}
			if !sameField(f, start) {
				t.Fatal(nameOf(start), by, nameOf(f))
			}
		}
	}
}

func TestP61EveryBackground(t *testing.T) {
	forFields(func(f impl.Field) {
		before := deepField(f)
		for i, dx := range edgeChanges {
			dy := edgeChanges[len(edgeChanges)-1-i]
			for _, by := range [][2]int{{dx, dy}, {dx, 0}, {0, dx}, {dx, dx}} {
				g := checkMoved(t, f, by[0], by[1])
				if !impl.FieldValid(g) {
					t.Fatal("valid", nameOf(f), by, nameOf(g))
				}
			}
		}
		if !sameField(f, before) {
			t.Fatal("changed", nameOf(before), nameOf(f))
		}
	})
}

// TestP61EveryShiftByEveryDistance has all shifts and all distances for every width and every height.
func TestP61EveryShiftByEveryDistance(t *testing.T) {
	for w := 1; w <= 8; w++ {
		rows := 9 - w
		f := fieldOf(w, rows, 1)
		for shift := 0; shift <= 255; shift++ {
			g := shifted(f, shift, 255-shift)
			for d := -255; d <= 255; d++ {
				got := impl.ShiftField(g, d, -d)
				if got.ShiftX != wrapped(shift+d, 8*w) || got.ShiftY != wrapped(255-shift-d, 8*rows) {
					t.Fatal(nameOf(g), d, nameOf(got))
				}
			}
		}
	}
}

func TestP61ShiftingBack(t *testing.T) {
	forFields(func(f impl.Field) {
		want := pictureOf(f)
		for i, dx := range edgeChanges {
			dy := edgeChanges[(i+9)%len(edgeChanges)]
			back := impl.ShiftField(impl.ShiftField(f, dx, dy), -dx, -dy)
			if !impl.FieldValid(back) {
				t.Fatal("valid", nameOf(f), dx, dy)
			}
			if len(f.Tiles) <= 2 || i%5 == 0 {
				checkLines(t, back, &want)
			}
			if back.ShiftX != f.ShiftX%(8*f.W) || back.ShiftY != f.ShiftY%(len(f.Map)/f.W*8) {
				t.Fatal("shifts", nameOf(f), dx, dy, nameOf(back))
			}
		}
		back := impl.ShiftField(impl.ShiftField(f, 77, -201), -77, 201)
		checkPixels(t, back, &want)
	})
}

// TestP61ShiftingTwiceIsShiftingByTheSum has all pairs of edge distances whose sum is a distance, in both directions.
func TestP61ShiftingTwiceIsShiftingByTheSum(t *testing.T) {
	inside := func(d int) bool { return d >= -255 && d <= 255 }
	for _, size := range [][2]int{{1, 1}, {1, 8}, {8, 1}, {3, 5}, {7, 6}, {8, 8}} {
		for _, shift := range []int{0, 1, 30, 63, 64, 200, 255} {
			f := shifted(fieldOf(size[0], size[1], 2), shift, 255-shift)
			for i, one := range edgeChanges {
				for _, two := range edgeChanges {
					other := edgeChanges[len(edgeChanges)-1-i]
					if !inside(one+two) || !inside(other-two) {
						continue
					}
					twice := impl.ShiftField(impl.ShiftField(f, one, other), two, -two)
					if once := impl.ShiftField(f, one+two, other-two); !sameField(twice, once) || isNoField(once) {
						t.Fatal(nameOf(f), one, two, other, nameOf(twice), nameOf(once))
					}
				}
			}
		}
	}
}

// TestP61TilesThatAreNotInTheTable stay in their places.
func TestP61TilesThatAreNotInTheTable(t *testing.T) {
	for tiles := 1; tiles <= 16; tiles++ {
		for number := range tiles {
			f := impl.Field{W: 1, Map: []int{number, number}, Tiles: tilesOf(tiles), ShiftX: 9, ShiftY: 15}
			for _, by := range [][2]int{{0, 0}, {1, 0}, {0, 1}, {-255, 255}} {
				checkMoved(t, f, by[0], by[1])
			}
		}
	}
}

func TestP61ShiftsWorkedOutByHand(t *testing.T) {
	for _, c := range []struct {
		w, rows int
		x, y    int
		dx, dy  int
		toX     int
		toY     int
	}{
		{2, 1, 0, 0, -1, 3, 15, 3},
		{1, 1, 0, 0, 0, 0, 0, 0},
		{1, 1, 7, 7, 1, 1, 0, 0},
		{1, 1, 0, 0, -1, -1, 7, 7},
		{1, 1, 0, 0, -8, 8, 0, 0},
		{1, 1, 255, 255, 0, 0, 7, 7},
		{1, 1, 255, 255, 255, 255, 6, 6},
		{1, 1, 0, 0, -255, -255, 1, 1},
		{1, 1, 255, 255, -255, -255, 0, 0},
		{3, 5, 255, 255, 0, 0, 15, 15},
		{3, 5, 255, 255, 255, -255, 6, 0},
		{3, 5, 0, 0, 255, 255, 15, 15},
		{3, 5, 0, 0, -255, -255, 9, 25},
		{3, 5, 23, 39, 1, 1, 0, 0},
		{3, 5, 10, 10, -11, -11, 23, 39},
		{8, 8, 0, 0, 255, -255, 63, 1},
		{8, 8, 255, 255, 255, -255, 62, 0},
		{8, 8, 63, 64, 0, 0, 63, 0},
		{8, 1, 100, 100, 100, 100, 8, 0},
		{1, 8, 100, 100, -101, -101, 7, 63},
	} {
		f := shifted(fieldOf(c.w, c.rows, 2), c.x, c.y)
		if got := impl.ShiftField(f, c.dx, c.dy); !sameField(got, shifted(f, c.toX, c.toY)) {
			t.Error(c, nameOf(got))
		}
	}
}

func TestP61OtherDistances(t *testing.T) {
	for _, size := range [][2]int{{1, 1}, {3, 5}, {8, 8}} {
		for _, shift := range []int{0, 1, 128, 255} {
			f := shifted(fieldOf(size[0], size[1], 2), shift, shift)
			for i, bad := range notShiftChanges {
				for _, good := range edgeChanges {
					checkNotMoved(t, f, bad, good)
					checkNotMoved(t, f, good, bad)
				}
				checkNotMoved(t, f, bad, bad)
				checkNotMoved(t, f, bad, notShiftChanges[len(notShiftChanges)-1-i])
			}
			for n := 256; n <= 600; n++ {
				for _, bad := range []int{-n, n} {
					checkNotMoved(t, f, bad, 0)
					checkNotMoved(t, f, 0, bad)
				}
			}
		}
	}
}

func TestP61OtherBackgroundsAreNotShifted(t *testing.T) {
	for _, f := range brokenFields() {
		for _, by := range [][2]int{{0, 0}, {1, 0}, {0, -1}, {-255, 255}, {255, -255}, {256, 0}, {0, -256}} {
			checkNotMoved(t, f, by[0], by[1])
		}
	}
}

// TestP61ShiftsThatWouldBecomeValid: a distance that leads back into the table, or to a shift in 0..255, does not make an invalid shift valid.
func TestP61ShiftsThatWouldBecomeValid(t *testing.T) {
	f := fieldOf(3, 5, 2)
	for n := 1; n <= 255; n++ {
		checkNotMoved(t, shifted(f, -n, 0), n, 0)
		checkNotMoved(t, shifted(f, 255+n, 0), -n, 0)
		checkNotMoved(t, shifted(f, 0, -n), 0, n)
		checkNotMoved(t, shifted(f, 0, 255+n), 0, -n)
	}
}

func spoilField(f impl.Field) {
	spoilList(f.Map)
	tiles := f.Tiles[:cap(f.Tiles)]
	for number := range tiles {
		tiles[number] = plainTile(-7)
	}
}

// packedField is a valid background whose lists have spare capacity, in which there are further numbers and tiles.
func packedField() (impl.Field, impl.Field) {
	all := fieldOf(4, 8, 16)
	f := shifted(all, 9, 10)
	for place := range f.Map {
		f.Map[place] %= 5
	}
	f.Map, f.Tiles = all.Map[:12], all.Tiles[:5]
	return f, all
}

func TestP61ResultsShareNoMemoryWithArguments(t *testing.T) {
	for _, by := range [][2]int{{0, 0}, {1, 0}, {0, 1}, {-32, 24}, {255, -255}} {
		f, all := packedField()
		before, allBefore := deepField(f), deepField(all)
		spoilField(impl.ShiftField(f, by[0], by[1]))
		if !sameField(f, before) || !sameField(all, allBefore) {
			t.Error("argument changed by the result", by)
		}
		result, other := impl.ShiftField(f, by[0], by[1]), impl.ShiftField(f, by[0], by[1])
		want := deepField(result)
		spoilField(f)
		if !sameField(result, want) {
			t.Error("result changed by the argument", by)
		}
		spoilField(other)
		if !sameField(result, want) {
			t.Error("result changed by another result", by)
		}
	}
}

// TestP61AppendingToResults: what is appended to the lists of a result reaches no argument and no other result.
func TestP61AppendingToResults(t *testing.T) {
	f, all := packedField()
	before := deepField(all)
	first, second := impl.ShiftField(f, 3, 3), impl.ShiftField(f, 3, 3)
	first.Map, second.Map = append(first.Map, 77), append(second.Map, 55)
	first.Tiles, second.Tiles = append(first.Tiles, plainTile(3)), append(second.Tiles, plainTile(1))
	if !sameField(all, before) {
		t.Error("argument", nameOf(all))
	}
	if first.Map[len(first.Map)-1] != 77 || first.Tiles[len(first.Tiles)-1] != plainTile(3) {
		t.Error("other result", nameOf(first))
	}
}

func TestP61CallsDependOnTheirArgumentsAlone(t *testing.T) {
	f, g := shifted(fieldOf(3, 2, 4), 5, 6), shifted(fieldOf(1, 8, 2), 255, 0)
	for range 5 {
		checkMoved(t, f, 20, -30)
		checkNotMoved(t, f, 256, 0)
		checkMoved(t, g, -1, -1)
		checkNotMoved(t, shifted(g, 256, 0), 0, 0)
	}
}

// checkTileRepeats wants all pixels to be those of a tile, shifted, in columns and rows modulo 8.
func checkTileRepeats(t *testing.T, f impl.Field, tile *impl.Tile) {
	t.Helper()
	for y := range 16 {
		line, row := impl.FieldLine(f, y), tile.Pixels[(y+f.ShiftY)%8*8:]
		if len(line) != 32 {
			t.Fatal(nameOf(f), y, len(line))
		}
		for x, pixel := range line {
			if pixel != row[(x+f.ShiftX)%8] {
				t.Fatal(nameOf(f), x, y, pixel)
			}
		}
	}
}

// TestP122EveryTwoShifts has all pairs of shifts for tables whose sizes differ.
func TestP122EveryTwoShifts(t *testing.T) {
	for _, size := range [][2]int{{1, 1}, {3, 7}} {
		f := fieldOf(size[0], size[1], 1)
		forBytePairs(func(x int, y int) { checkTileRepeats(t, shifted(f, x, y), &f.Tiles[0]) })
	}
}

func TestP122TablesOfEverySize(t *testing.T) {
	forSizes(func(w int, rows int) {
		f := fieldOf(w, rows, 1)
		for i, x := range edgeShifts {
			for _, y := range []int{0, 255, edgeShifts[len(edgeShifts)-1-i]} {
				g := shifted(f, x, y)
				checkTileRepeats(t, g, &f.Tiles[0])
				if i%4 == 0 {
					for place := range 512 {
						if got := impl.FieldPixel(g, place%32, place/32); got != f.Tiles[0].Pixels[(place/32+y)%8*8+(place%32+x)%8] {
							t.Fatal(nameOf(g), place%32, place/32, got)
						}
					}
				}
			}
		}
	})
}

// TestP122OneOfSeveralTiles has tables with one tile only, which is any one of several.
func TestP122OneOfSeveralTiles(t *testing.T) {
	for _, tiles := range []int{2, 16} {
		for number := range tiles {
			for _, size := range [][2]int{{1, 1}, {2, 2}, {8, 8}} {
				f := impl.Field{W: size[0], Map: slices.Repeat([]int{number}, size[0]*size[1]), Tiles: tilesOf(tiles), ShiftX: 250, ShiftY: 3}
				checkTileRepeats(t, f, &f.Tiles[number])
			}
		}
	}
}

func TestP122TilesWithASinglePixel(t *testing.T) {
	for place := range 64 {
		for _, shifts := range [][2]int{{0, 0}, {5, 2}, {255, 255}} {
			x := plainTile(3)
			x.Pixels[place] = 0
			f := shifted(impl.Field{W: 1, Map: []int{0}, Tiles: []impl.Tile{x}}, shifts[0], shifts[1])
			all, seen := pixelsOf(f), 0
			for y := range all {
				for column, pixel := range all[y] {
					here := (column+shifts[0])%8 == place%8 && (y+shifts[1])%8 == place/8
					if pixel != 3-3*digit(here) {
						t.Fatal(place, shifts, column, y, pixel)
					}
					seen += digit(pixel == 0)
				}
			}
			if seen != 8 {
				t.Fatal(place, shifts, seen)
			}
		}
	}
}

func TestP122ShiftingByTiles(t *testing.T) {
	forSizes(func(w int, rows int) {
		f := shifted(fieldOf(w, rows, 1), 3, 250)
		want := pictureOf(f)
		for by := -248; by <= 248; by += 8 {
			g := impl.ShiftField(f, by, -by)
			checkLines(t, g, &want)
		}
	})
}

func TestP122OtherTilesAreNotRepeated(t *testing.T) {
	for place := range 64 {
		for _, bad := range notPixels {
			x := plainTile(2)
			x.Pixels[place] = bad
			for _, table := range [][]int{{0}, {0, 0}} {
				f := impl.Field{W: len(table), Map: table, Tiles: []impl.Tile{x}, ShiftX: 255, ShiftY: 8}
				checkNoPixel(t, f, 0, 0)
				checkNoPixel(t, f, 31, 15)
				checkNoLine(t, f, 0)
				checkNoLine(t, f, 15)
				checkNotMoved(t, f, 0, 0)
			}
		}
	}
	for _, table := range [][]int{{-1}, {1}, {0, 1}, {}, nil} {
		f := impl.Field{W: 1, Map: table, Tiles: tilesOf(1)}
		checkNoPixel(t, f, 0, 0)
		checkNoLine(t, f, 0)
	}
}
