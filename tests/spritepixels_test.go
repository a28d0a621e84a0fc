package tests

import (
	"slices"
	"strings"
	"testing"

	"loop.example/homeconsole/impl"
)

// spot is what SpriteAt tells of a place: the number of a sprite and its pixel.
type spot struct {
	number int
	pixel  int
}

var noSpot = spot{-1, 0}

// spots has all places of the picture, line by line.
type spots [16][32]spot

// pixelOf is the pixel of a single sprite, 0 also where it does not reach; written from the document.
func pixelOf(s impl.Sprite, tiles []impl.Tile, x int, y int) int {
	column, row := x-s.X, y-s.Y
	if column < 0 || column > 7 || row < 0 || row > 7 {
		return 0
	}
	return flipped(tiles[s.Number], s.Across, s.Down).Pixels[8*row+column]
}

// seenOf is SpriteAt for all places, written from the document.
func seenOf(f figures) spots {
	var all spots
	for y := range all {
		numbers := onLineOf(f.list, y)
		for x := range all[y] {
			all[y][x] = noSpot
			for _, number := range numbers {
				if pixel := pixelOf(f.list[number], f.tiles, x, y); pixel != 0 {
					all[y][x] = spot{number, pixel}
					break
				}
			}
		}
	}
	return all
}

func spotAt(f figures, x int, y int) spot {
	number, pixel := impl.SpriteAt(f.list, f.tiles, x, y)
	return spot{number, pixel}
}

// spotsOf is the picture as SpriteAt tells it.
func spotsOf(f figures) spots {
	var all spots
	for y := range all {
		for x := range all[y] {
			all[y][x] = spotAt(f, x, y)
		}
	}
	return all
}

// checkSpots wants SpriteAt to tell certain spots.
func checkSpots(t *testing.T, f figures, want *spots) {
	t.Helper()
	for y := range want {
		for x, there := range want[y] {
			if got := spotAt(f, x, y); got != there {
				t.Fatal("at", x, y, "wanted", there, "got", got, titleOf(f))
			}
		}
	}
}

// checkAllSpots wants SpriteAt to follow the document's rule in the whole picture.
func checkAllSpots(t *testing.T, f figures) {
	t.Helper()
	want := seenOf(f)
	checkSpots(t, f, &want)
}

func checkNoSpot(t *testing.T, f figures, x int, y int) {
	t.Helper()
	if got := spotAt(f, x, y); got != noSpot {
		t.Fatal("at", x, y, got, titleOf(f))
	}
}

func checkNothingSeen(t *testing.T, f figures) {
	t.Helper()
	for y := range 16 {
		for x := range 32 {
			checkNoSpot(t, f, x, y)
		}
	}
}

// alone has one sprite of a list only.
func alone(f figures, number int) figures {
	return figures{f.list[number : number+1], f.tiles}
}

func TestP64PixelsFollowTheRule(t *testing.T) {
	forFigures(t, func(f figures) { checkAllSpots(t, f) })
}

// TestP64TheFirstSpriteIsInFront uses nothing but the promise.
func TestP64TheFirstSpriteIsInFront(t *testing.T) {
	forFigures(t, func(f figures) {
		if len(f.tiles) > 2 {
			return
		}
		for y := range 16 {
			numbers := impl.SpritesOnLine(f.list, f.tiles, y)
			for x := range 32 {
				here := spotAt(f, x, y)
				if here != noSpot && (here.pixel == 0 || !slices.Contains(numbers, here.number)) {
					t.Fatal("at", x, y, here, numbers, titleOf(f))
				}
				for _, number := range numbers {
					single := spotAt(alone(f, number), x, y)
					if number == here.number {
						if single != (spot{0, here.pixel}) {
							t.Fatal("itself at", x, y, here, single, titleOf(f))
						}
						break
					}
					if single != noSpot {
						t.Fatal("before it at", x, y, here, number, single, titleOf(f))
					}
				}
			}
		}
	})
}

// TestP64EveryPlace has a sprite at every X with some Y, and at every Y with some X, also wholly outside the picture.
func TestP64EveryPlace(t *testing.T) {
	tiles := []impl.Tile{mixedTile(31, []int{1, 2, 3}), mixedTile(32, valuesOf(15))}
	for place := -16; place <= 64; place++ {
		for i, other := range edgePlaces {
			for _, s := range []impl.Sprite{{X: place, Y: other}, {X: other, Y: place, Number: 1}} {
				s.Across, s.Down, s.Behind = i%2 == 1, i%4 > 1, i%3 == 0
				checkAllSpots(t, figures{[]impl.Sprite{s}, tiles})
			}
		}
	}
}

// TestP64SinglePixels has a sprite with a single pixel, in any place, flipped in any way, and names the only place where it is seen.
func TestP64SinglePixels(t *testing.T) {
	for place := range 64 {
		tile := impl.Tile{}
		tile.Pixels[place] = 1 + place%3
		forFlips(func(across bool, down bool) {
			column, row := place%8, place/8
			if across {
				column = 7 - column
			}
			if down {
				row = 7 - row
			}
			for _, at := range [][2]int{{0, 0}, {-7, -7}, {24, 8}, {31, 15}, {10, -3}, {-3, 10}, {29, 4}, {6, 13}} {
				for _, behind := range bothFlags {
					f := figures{[]impl.Sprite{{X: at[0], Y: at[1], Across: across, Down: down, Behind: behind}}, []impl.Tile{tile}}
					all := spotsOf(f)
					for y := range all {
						for x, got := range all[y] {
							want := noSpot
							if x == at[0]+column && y == at[1]+row {
								want = spot{0, 1 + place%3}
							}
							if got != want {
								t.Fatal("place", place, "at", x, y, "wanted", want, "got", got, titleOf(f))
							}
						}
					}
				}
			}
		})
	}
}

// TestP64EdgesOfASolidSprite: its first and last column and row are seen, those beside them are not.
func TestP64EdgesOfASolidSprite(t *testing.T) {
	for _, atX := range edgePlaces {
		for _, atY := range edgePlaces {
			f := figures{[]impl.Sprite{{X: atX, Y: atY}}, []impl.Tile{plainTile(2)}}
			for _, x := range []int{atX - 1, atX, atX + 7, atX + 8, 0, 31} {
				for _, y := range []int{atY - 1, atY, atY + 7, atY + 8, 0, 15} {
					want := noSpot
					if x >= atX && x <= atX+7 && y >= atY && y <= atY+7 && x >= 0 && x <= 31 && y >= 0 && y <= 15 {
						want = spot{0, 2}
					}
					if got := spotAt(f, x, y); got != want {
						t.Fatal("at", x, y, "wanted", want, "got", got, titleOf(f))
					}
				}
			}
		}
	}
}

// TestP64EveryOrder has up to seven sprites in every order, each of which is beside the line, beside the column, transparent, or seen: the first four on the line count, also those without a pixel there.
func TestP64EveryOrder(t *testing.T) {
	kinds := []impl.Sprite{{X: 5, Y: 9}, {X: 13, Y: 3}, {X: 5, Y: 3, Number: 1}, {X: 5, Y: 3}}
	tiles := []impl.Tile{plainTile(3), {}}
	for n := 1; n <= 7; n++ {
		for choice := range 1 << (2 * n) {
			list := make([]impl.Sprite, n)
			want, onLine := noSpot, 0
			for number := range list {
				kind := choice >> (2 * number) & 3
				list[number] = kinds[kind]
				if kind == 3 && onLine < 4 && want == noSpot {
					want = spot{number, 3}
				}
				onLine += digit(kind > 0)
			}
			if got := spotAt(figures{list, tiles}, 8, 7); got != want {
				t.Fatal("wanted", want, "got", got, titleOf(figures{list, tiles}))
			}
		}
	}
}

// TestP64EveryTransparentFront has every choice of which of twelve sprites, all on the line, have a pixel there: of those behind the fourth none is seen.
func TestP64EveryTransparentFront(t *testing.T) {
	tiles := []impl.Tile{{}, plainTile(1)}
	for chosen := range 1 << 12 {
		f := figures{make([]impl.Sprite, 12), tiles}
		want := noSpot
		for number := 11; number >= 0; number-- {
			f.list[number].Number = chosen >> number & 1
			if number < 4 && f.list[number].Number == 1 {
				want = spot{number, 1}
			}
		}
		if got := spotAt(f, 3, 4); got != want {
			t.Fatal("wanted", want, "got", got, titleOf(f))
		}
	}
}

// TestP64EveryTwoPixels has each pixel of a sprite before each one of another sprite.
func TestP64EveryTwoPixels(t *testing.T) {
	for front := 0; front <= 3; front++ {
		for back := 0; back <= 3; back++ {
			for _, behind := range bothFlags {
				f := figures{[]impl.Sprite{{X: 4, Y: 2, Number: front, Behind: behind}, {X: 6, Y: 5, Number: back, Behind: !behind}}, nil}
				for value := range 4 {
					f.tiles = append(f.tiles, plainTile(value))
				}
				want := spot{0, front}
				if front == 0 {
					want = spot{1, back}
				}
				if want.pixel == 0 {
					want = noSpot
				}
				if got := spotAt(f, 8, 7); got != want {
					t.Error(front, back, behind, got)
				}
			}
		}
	}
}

// TestP64EveryTile has one sprite of each of sixteen tiles, four in a line.
func TestP64EveryTile(t *testing.T) {
	for start := range 16 {
		f := figures{tiles: tilesOf(16)}
		for place := range 8 {
			f.list = append(f.list, impl.Sprite{X: place % 4 * 8, Y: place / 4 * 8, Number: (start + place) % 16})
		}
		all := spotsOf(f)
		for y := range all {
			for x, got := range all[y] {
				place := y/8*4 + x/8
				want := spot{place, f.tiles[(start+place)%16].Pixels[y%8*8+x%8]}
				if want.pixel == 0 {
					want = noSpot
				}
				if got != want {
					t.Fatal(start, "at", x, y, "wanted", want, "got", got)
				}
			}
		}
	}
}

// TestP64LinesWorkedOutByHand has the numbers of the sprites and their pixels in each column, with a dot where there is none.
func TestP64LinesWorkedOutByHand(t *testing.T) {
	arrow := tileOf("00000001", "00000012", "00000123", "33333333", "00000123", "00000012", "00000001", "20000000")
	f := figures{[]impl.Sprite{
		{X: 2, Y: 1},
		{X: 2, Y: 1, Across: true},
		{X: 6, Y: 3, Number: 1, Behind: true},
		{X: -4, Y: 0, Down: true},
		{X: 0, Y: 2, Number: 1},
		{X: 30, Y: 10, Across: true, Down: true},
		{X: 32, Y: 10, Number: 1},
		{X: -8, Y: 10, Number: 1},
		{X: 12, Y: 10, Number: 2},
		{X: 12, Y: 10, Number: 1},
	}, []impl.Tile{arrow, plainTile(2), {}}}
	right := strings.Repeat(".", 30)
	for _, c := range []struct {
		y       int
		numbers string
		pixels  string
	}{
		{0, "", ""},
		{1, "..13.....0", "..11.....1"},
		{2, "4411444400", "2221222212"},
		{3, ".3111.20002222", ".1321.21232222"},
		{4, "33000000002222", "33333333332222"},
		{8, "44044422212222", "22222222222222"},
		{9, "44444422222222", "22222222222222"},
		{10, "......22222222", "......22222222"},
		{11, right + "5.", right + "1."},
		{12, right + "55", right + "21"},
		{14, right + "55", right + "33"},
		{15, right + "55", right + "32"},
	} {
		for x := range 32 {
			want := noSpot
			if x < len(c.numbers) && c.numbers[x] != '.' {
				want = spot{int(c.numbers[x] - '0'), int(c.pixels[x] - '0')}
			}
			if got := spotAt(f, x, c.y); got != want {
				t.Error("at", x, c.y, "wanted", want, "got", got)
			}
		}
	}
}

// TestP64ColumnsOutsideThePicture has sprites that reach into these columns.
func TestP64ColumnsOutsideThePicture(t *testing.T) {
	for place := -16; place <= 64; place++ {
		f := figures{[]impl.Sprite{{X: place, Y: 4}, {X: place, Y: 4, Number: 1}}, []impl.Tile{{}, plainTile(3)}}
		for x := -30; x <= 90; x++ {
			if x < 0 || x > 31 {
				for y := -1; y <= 16; y++ {
					checkNoSpot(t, f, x, y)
				}
			}
		}
		for _, x := range notColumns {
			for _, y := range slices.Concat(edgeLines, notLines) {
				checkNoSpot(t, f, x, y)
			}
		}
	}
}

func TestP64LinesOutsideThePicture(t *testing.T) {
	forLinesOutside(func(f figures, y int) {
		for _, x := range slices.Concat(edgeColumns, []int{-1, 32}) {
			checkNoSpot(t, f, x, y)
		}
	})
}

func TestP64WithoutSprites(t *testing.T) {
	for _, tiles := range [][]impl.Tile{nil, {}, {plainTile(3)}, tilesOf(16)} {
		for y := -1; y <= 16; y++ {
			for x := -1; x <= 32; x++ {
				checkNoSpot(t, figures{nil, tiles}, x, y)
				checkNoSpot(t, figures{[]impl.Sprite{}, tiles}, x, y)
			}
		}
	}
}

func TestP64OtherSpritesAreNotSeen(t *testing.T) {
	for _, f := range brokenFigures() {
		for _, y := range []int{0, 2, 4, 7, 8, 15, -1, 16} {
			for _, x := range []int{0, 1, 4, 8, 15, 31, -1, 32} {
				checkNoSpot(t, f, x, y)
			}
		}
	}
}

// TestP64AnInvalidSpriteHidesAll: also one that is last, that is not on the line, or whose tile is not used by what would be seen.
func TestP64AnInvalidSpriteHidesAll(t *testing.T) {
	good := figures{[]impl.Sprite{{X: 1, Y: 1}}, []impl.Tile{plainTile(1), plainTile(2)}}
	if got := spotAt(good, 4, 4); got != (spot{0, 1}) {
		t.Fatal(got)
	}
	for _, other := range []impl.Sprite{{X: -17}, {X: 65}, {Y: -17}, {Y: 65}, {X: 20, Y: 12, Number: 2}, {X: 20, Y: 12, Number: -1}} {
		checkNoSpot(t, figures{[]impl.Sprite{good.list[0], other}, good.tiles}, 4, 4)
		checkNoSpot(t, figures{[]impl.Sprite{other, good.list[0]}, good.tiles}, 4, 4)
	}
	for place := range 64 {
		for _, pixel := range []int{-1, 4} {
			f := deepFigures(good)
			f.tiles[1].Pixels[place] = pixel
			checkNoSpot(t, f, 4, 4)
		}
	}
}

func TestP64CallsDependOnTheirArgumentsAlone(t *testing.T) {
	f, g := mixedFigures(8, 9, 2, regions[0]), mixedFigures(9, 12, 5, regions[3])
	broken := deepFigures(f)
	broken.list[0].X = -17
	for range 5 {
		checkAllSpots(t, f)
		checkNoSpot(t, broken, 5, 5)
		checkAllSpots(t, g)
		checkNoSpot(t, f, 32, 5)
	}
}

// unflipped has, for every sprite, a tile of its own that is flipped across instead of the sprite, if the sprite is; and in the same way down, if that is asked for.
func unflipped(f figures, alsoDown bool) figures {
	g := deepFigures(f)
	g.tiles = nil
	for place, s := range f.list {
		down := alsoDown && s.Down
		g.tiles = append(g.tiles, impl.FlipTile(f.tiles[s.Number], s.Across, down))
		g.list[place].Number = place
		g.list[place].Across = false
		g.list[place].Down = s.Down && !down
	}
	return g
}

func TestP120FlippedSpritesShowFlippedTiles(t *testing.T) {
	forFigures(t, func(f figures) {
		if len(f.tiles) == 2 {
			return
		}
		want := spotsOf(f)
		for _, alsoDown := range bothFlags {
			g := unflipped(f, alsoDown)
			checkSpots(t, g, &want)
		}
		want = seenOf(f)
		checkSpots(t, f, &want)
	})
}

// TestP120EveryPlace has single sprites at every X with some Y, and at every Y with some X, flipped in each way.
func TestP120EveryPlace(t *testing.T) {
	tiles := []impl.Tile{mixedTile(40, valuesOf(15))}
	for place := -16; place <= 64; place++ {
		for _, other := range []int{-16, -8, -7, -3, 0, 5, 11, 15, 16, 31, 64} {
			forFlips(func(across bool, down bool) {
				for _, s := range []impl.Sprite{{X: place, Y: other}, {X: other, Y: place, Behind: true}} {
					s.Across, s.Down = across, down
					f := figures{[]impl.Sprite{s}, tiles}
					g := unflipped(f, true)
					for _, y := range []int{0, 1, 5, 8, 14, 15} {
						for _, x := range []int{0, 1, 4, 8, 18, 30, 31} {
							want := spot{0, pixelOf(s, tiles, x, y)}
							if want.pixel == 0 {
								want = noSpot
							}
							if spotAt(f, x, y) != want || spotAt(g, x, y) != want {
								t.Fatal("at", x, y, "wanted", want, titleOf(f))
							}
						}
					}
				}
			})
		}
	}
}

// TestP120SinglePixels has one pixel in each place: flipped across it is seen in the other column of the same row.
func TestP120SinglePixels(t *testing.T) {
	for place := range 64 {
		for pixel := 1; pixel <= 3; pixel++ {
			tile := impl.Tile{}
			tile.Pixels[place] = pixel
			for _, c := range []struct {
				across, down bool
				x, y         int
			}{
				{false, false, 10 + place%8, 4 + place/8},
				{true, false, 17 - place%8, 4 + place/8},
				{false, true, 10 + place%8, 11 - place/8},
				{true, true, 17 - place%8, 11 - place/8},
			} {
				f := figures{[]impl.Sprite{{X: 10, Y: 4, Across: c.across, Down: c.down}}, []impl.Tile{tile}}
				seen := 0
				for y := 4; y <= 11; y++ {
					for x := 10; x <= 17; x++ {
						seen += digit(spotAt(f, x, y) != noSpot)
					}
				}
				if got := spotAt(f, c.x, c.y); got != (spot{0, pixel}) || seen != 1 {
					t.Fatal(place, pixel, c, got, seen)
				}
			}
		}
	}
}

func TestP120RowsWorkedOutByHand(t *testing.T) {
	tile := tileOf("01230000", "10000002", "00000000", "00000000", "00000000", "00000000", "00000000", "33210001")
	for _, c := range []struct {
		across, down bool
		x, y         int
		row          string
	}{
		{false, false, 0, 0, "01230000"},
		{true, false, 0, 0, "00003210"},
		{false, true, 0, 0, "33210001"},
		{true, true, 0, 0, "10001233"},
		{false, false, 0, 1, "10000002"},
		{true, false, 0, 1, "20000001"},
		{false, true, 0, 6, "10000002"},
		{true, true, 0, 6, "20000001"},
		{false, true, 0, 7, "01230000"},
		{true, true, 0, 7, "00003210"},
		{true, false, -3, 0, "03210"},
		{true, false, 28, 0, "0000"},
		{false, false, 28, 0, "0123"},
		{true, true, 29, 0, "100"},
		{false, false, -7, 7, "1"},
		{true, false, -7, 7, "3"},
	} {
		f := figures{[]impl.Sprite{{X: c.x, Y: 0, Across: c.across, Down: c.down}}, []impl.Tile{tile}}
		for i, pixel := range digitsLine(c.row) {
			want := spot{0, pixel}
			if pixel == 0 {
				want = noSpot
			}
			if got := spotAt(f, max(c.x, 0)+i, c.y); got != want {
				t.Error(c, i, "wanted", want, "got", got)
			}
		}
	}
}

// TestP120SymmetricTiles look the same when they are flipped.
func TestP120SymmetricTiles(t *testing.T) {
	round := tileOf("00111100", "01222210", "12000021", "12033021", "12033021", "12000021", "01222210", "00111100")
	for _, tile := range []impl.Tile{round, plainTile(0), plainTile(1), plainTile(2), plainTile(3)} {
		for _, at := range [][2]int{{0, 0}, {-3, -5}, {27, 12}, {12, 4}} {
			want := spotsOf(figures{[]impl.Sprite{{X: at[0], Y: at[1]}}, []impl.Tile{tile}})
			forFlips(func(across bool, down bool) {
				checkSpots(t, figures{[]impl.Sprite{{X: at[0], Y: at[1], Across: across, Down: down}}, []impl.Tile{tile}}, &want)
			})
		}
	}
}

// TestP120ManyFlippedSprites has the same tile flipped in each way, side by side and over each other.
func TestP120ManyFlippedSprites(t *testing.T) {
	for seed := range 20 {
		for apart := range 10 {
			f := figures{tiles: []impl.Tile{mixedTile(seed, []int{0, 0, 1, 2, 3})}}
			forFlips(func(across bool, down bool) {
				f.list = append(f.list, impl.Sprite{X: len(f.list) * apart, Y: 2 + len(f.list), Across: across, Down: down})
			})
			want := seenOf(f)
			checkSpots(t, f, &want)
			checkSpots(t, unflipped(f, true), &want)
		}
	}
}

// TestP120OtherSpritesAreNotFlipped: flipping makes no other sprite valid.
func TestP120OtherSpritesAreNotFlipped(t *testing.T) {
	forFlips(func(across bool, down bool) {
		for _, behind := range bothFlags {
			s := impl.Sprite{X: 2, Y: 2, Across: across, Down: down, Behind: behind}
			for place := range 64 {
				for _, bad := range notPixels {
					tile := plainTile(3)
					tile.Pixels[place] = bad
					checkNoSpot(t, figures{[]impl.Sprite{s}, []impl.Tile{tile}}, 2+place%7, 5)
				}
			}
			for _, bad := range notPlaces {
				other := s
				other.X = bad
				checkNoSpot(t, figures{[]impl.Sprite{s, other}, []impl.Tile{plainTile(3)}}, 4, 4)
			}
			checkNoSpot(t, figures{[]impl.Sprite{s}, nil}, 4, 4)
			checkNoSpot(t, figures{slices.Repeat([]impl.Sprite{s}, 13), []impl.Tile{plainTile(3)}}, 4, 4)
		}
	})
}

// furtherSprites are put at the end of lists: some are everywhere, some nowhere in the picture.
func furtherSprites(tiles int) []impl.Sprite {
	next := mixed(tiles)
	further := []impl.Sprite{{X: -16, Y: -16}, {X: 64, Y: 64}, {X: 0, Y: 0, Number: tiles - 1}, {X: 28, Y: 12, Across: true}, {X: -3, Y: 3, Down: true, Behind: true}}
	for range 4 {
		further = append(further, impl.Sprite{X: next(10), Y: next(8), Number: next(tiles), Behind: next(2) == 1})
	}
	return further
}

func TestP123LaterSpritesAreBehind(t *testing.T) {
	forFigures(t, func(f figures) {
		if len(f.list) == 12 || len(f.tiles) == 5 {
			return
		}
		before := spotsOf(f)
		for _, s := range furtherSprites(len(f.tiles)) {
			g := figures{append(slices.Clone(f.list), s), f.tiles}
			for y := range before {
				full := len(impl.SpritesOnLine(f.list, f.tiles, y)) == 4
				for x, old := range before[y] {
					want, own := old, pixelOf(s, f.tiles, x, y)
					if old == noSpot && !full && own != 0 {
						want = spot{len(f.list), own}
					}
					if got := spotAt(g, x, y); got != want {
						t.Fatal("at", x, y, "wanted", want, "got", got, titleOf(g))
					}
				}
			}
		}
	})
}

// TestP123EveryNumberOfSprites adds solid sprites, one after the other, all at the same place: the first one stays in front.
func TestP123EveryNumberOfSprites(t *testing.T) {
	tiles := []impl.Tile{plainTile(1), plainTile(2), plainTile(3)}
	for first := range 3 {
		f := figures{[]impl.Sprite{{X: 5, Y: 3, Number: first}}, tiles}
		want := spotsOf(f)
		for n := 2; n <= 12; n++ {
			f.list = append(f.list, impl.Sprite{X: 5, Y: 3, Number: (first + n) % 3, Behind: n%2 == 0})
			checkSpots(t, f, &want)
		}
		f.list = append(f.list, impl.Sprite{X: 5, Y: 3})
		checkNothingSeen(t, f)
	}
}

// TestP123PrefixesAgree: what the first sprites of a list show is still there with all the others behind them.
func TestP123PrefixesAgree(t *testing.T) {
	for seed := range 40 {
		f := mixedFigures(seed, 12, 5, regions[seed%len(regions)])
		all := spotsOf(f)
		for n := range f.list {
			for y, line := range spotsOf(figures{f.list[:n], f.tiles}) {
				for x, old := range line {
					if old != noSpot && all[y][x] != old || all[y][x].number < n && all[y][x] != old {
						t.Fatal("sprites", n, "at", x, y, old, all[y][x], titleOf(f))
					}
				}
			}
		}
	}
}

// TestP123HolesAreFilled: a further sprite is seen where all those before it on the line are transparent, but only if it is one of the first four.
func TestP123HolesAreFilled(t *testing.T) {
	frame := tileOf("11111111", "10000001", "10000001", "10000001", "10000001", "10000001", "10000001", "11111111")
	tiles := []impl.Tile{frame, plainTile(3)}
	for n := 0; n <= 11; n++ {
		list := slices.Repeat([]impl.Sprite{{X: 8, Y: 4}}, n)
		f := figures{append(list, impl.Sprite{X: 8, Y: 4, Number: 1}), tiles}
		for place, pixel := range frame.Pixels {
			want := noSpot
			if n > 0 && pixel != 0 {
				want = spot{0, 1}
			} else if n < 4 {
				want = spot{n, 3}
			}
			if got := spotAt(f, 8+place%8, 4+place/8); got != want {
				t.Fatal(n, place, "wanted", want, "got", got)
			}
		}
	}
}

// TestP123FullLinesStay: on a line with four sprites a further one changes nothing at all, wherever it is.
func TestP123FullLinesStay(t *testing.T) {
	for n := 4; n <= 11; n++ {
		f := figures{slices.Repeat([]impl.Sprite{{X: -4, Y: 4}}, n), []impl.Tile{plainTile(2), plainTile(1)}}
		want := spotsOf(f)
		for _, x := range edgePlaces {
			g := figures{append(slices.Clone(f.list), impl.Sprite{X: x, Y: 4, Number: 1}), f.tiles}
			checkSpots(t, g, &want)
		}
	}
}

// TestP123FurtherSpritesThatAreNotValid: with them nothing is seen.
func TestP123FurtherSpritesThatAreNotValid(t *testing.T) {
	for n := 0; n <= 12; n++ {
		f := figures{slices.Repeat([]impl.Sprite{{X: 6, Y: 6}}, n), []impl.Tile{plainTile(3)}}
		for _, s := range []impl.Sprite{{X: -17}, {X: 65}, {Y: -17}, {Y: 65}, {Number: -1}, {Number: 1}} {
			checkNothingSeen(t, figures{append(slices.Clone(f.list), s), f.tiles})
		}
	}
}

// TestP123AppendingDoesNotChangeTheList: a list with spare capacity, in which the further sprite lies, is as one without.
func TestP123AppendingDoesNotChangeTheList(t *testing.T) {
	full := mixedFigures(11, 12, 2, regions[0])
	for n := range full.list {
		want := seenOf(figures{slices.Clone(full.list[:n]), full.tiles})
		checkSpots(t, figures{full.list[:n], full.tiles}, &want)
		checkSpots(t, figures{slices.Clip(full.list[:n]), full.tiles}, &want)
	}
}
