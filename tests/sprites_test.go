package tests

import (
	"math"
	"slices"
	"strconv"
	"testing"

	"loop.example/homeconsole/impl"
)

// notPlaces has numbers at which no sprite can be, also some that would wrap to one at which it can.
var notPlaces = []int{
	-17, -18, -23, -24, -32, -64, -128, -248, -255, -256, -257, -65536,
	65, 66, 71, 72, 96, 127, 128, 255, 256, 259, 65536, 65536 + 5,
	1<<32 + 3, 1 << 32, -(1 << 32), -(1 << 32) + 3, math.MaxInt - 7, math.MaxInt, math.MinInt, math.MinInt + 7,
}

// edgePlaces are the ends, the places at which a sprite just touches or just leaves the picture, and some between.
var edgePlaces = []int{-16, -15, -9, -8, -7, -6, -1, 0, 1, 3, 7, 8, 9, 14, 15, 16, 17, 23, 24, 25, 30, 31, 32, 33, 48, 63, 64}

// figures are sprites with their tiles.
type figures struct {
	list  []impl.Sprite
	tiles []impl.Tile
}

func deepFigures(f figures) figures {
	return figures{slices.Clone(f.list), slices.Clone(f.tiles)}
}

func sameFigures(a figures, b figures) bool {
	return slices.Equal(a.list, b.list) && slices.Equal(a.tiles, b.tiles)
}

// titleOf tells what a failing test needs of sprites: with the tiles they would fill the screen.
func titleOf(f figures) string {
	title := strconv.Itoa(len(f.tiles)) + " tiles, sprites"
	for _, s := range f.list {
		title += " (" + strconv.Itoa(s.X) + " " + strconv.Itoa(s.Y) + " tile " + strconv.Itoa(s.Number)
		title += " " + strconv.FormatBool(s.Across) + " " + strconv.FormatBool(s.Down) + " " + strconv.FormatBool(s.Behind) + ")"
	}
	return title
}

// thinTilesOf makes tiles that are all different, each with all four values, but half of the pixels transparent: what is behind them is often seen.
func thinTilesOf(n int) []impl.Tile {
	var tiles []impl.Tile
	for number := range n {
		tiles = append(tiles, mixedTile(90+number, []int{0, 1, 0, 2, 0, 3}))
	}
	return tiles
}

// region bounds where sprites are: the smaller it is, the more of them share a line.
type region struct {
	x, y       int
	wide, high int
}

var regions = []region{
	{0, 0, 9, 5},
	{-7, -7, 39, 23},
	{-16, -16, 81, 81},
	{24, 8, 12, 12},
}

// mixedFigures has sprites in mixed places of a region, flipped in mixed ways.
func mixedFigures(seed int, n int, tiles int, in region) figures {
	next := mixed(seed)
	f := figures{tiles: thinTilesOf(tiles)}
	for range n {
		f.list = append(f.list, impl.Sprite{
			X:      in.x + next(in.wide),
			Y:      in.y + next(in.high),
			Number: next(tiles),
			Across: next(2) == 1,
			Down:   next(2) == 1,
			Behind: next(2) == 1,
		})
	}
	return f
}

// forFigures calls a check for every number of sprites in every region, with one, a few and the most tiles, none of which may be changed.
func forFigures(t *testing.T, check func(f figures)) {
	t.Helper()
	for n := 0; n <= 12; n++ {
		for number, in := range regions {
			for _, tiles := range []int{1, 2, 5, 16} {
				f := mixedFigures(1000*n+100*number+tiles, n, tiles, in)
				before := deepFigures(f)
				check(f)
				if !sameFigures(f, before) {
					t.Fatal("changed", titleOf(before), titleOf(f))
				}
			}
		}
	}
}

// forLinesOutside calls a check for lines outside the picture, for different numbers of sprites that would cover them.
func forLinesOutside(check func(f figures, y int)) {
	for _, n := range []int{0, 1, 3, 4, 5, 12} {
		for place := -16; place <= 64; place++ {
			f := figures{slices.Repeat([]impl.Sprite{{Y: place}}, n), []impl.Tile{plainTile(3)}}
			for y := -30; y <= 90; y++ {
				if y < 0 || y > 15 {
					check(f, y)
				}
			}
			for _, y := range notLines {
				check(f, y)
			}
		}
	}
}

// goodFigures are those that are spoiled in one part to find out whether it is checked.
func goodFigures() []figures {
	return []figures{
		mixedFigures(1, 1, 1, regions[0]),
		mixedFigures(2, 5, 3, regions[0]),
		mixedFigures(3, 12, 16, regions[1]),
		{mixedFigures(4, 12, 1, regions[2]).list, thinTilesOf(16)},
	}
}

// coveringOf has the numbers of all sprites that cover a line; written from the document.
func coveringOf(list []impl.Sprite, y int) []int {
	var numbers []int
	for number, s := range list {
		if y-s.Y >= 0 && y-s.Y <= 7 {
			numbers = append(numbers, number)
		}
	}
	return numbers
}

// onLineOf is SpritesOnLine, written from the document.
func onLineOf(list []impl.Sprite, y int) []int {
	numbers := coveringOf(list, y)
	if len(numbers) > 4 {
		return numbers[:4]
	}
	return numbers
}

// brokenSprites has sprites that are too many, at other places, or with other numbers than those of tiles.
func brokenSprites() map[string]figures {
	broken := map[string]figures{}
	for _, good := range goodFigures() {
		put := func(name string, list []impl.Sprite) {
			broken[name+" of "+titleOf(good)] = figures{list, good.tiles}
		}
		for _, n := range []int{13, 14, 24, 25, 40, 256, 268} {
			put("sprites "+strconv.Itoa(n), slices.Repeat(good.list, n)[:n])
		}
		for place, s := range good.list {
			change := func(name string, other impl.Sprite) {
				list := slices.Clone(good.list)
				list[place] = other
				put(name+" at "+strconv.Itoa(place), list)
			}
			for _, bad := range notPlaces {
				across, down, both := s, s, s
				across.X, down.Y, both.X, both.Y = bad, bad, bad, bad
				change("X "+strconv.Itoa(bad), across)
				change("Y "+strconv.Itoa(bad), down)
				change("both "+strconv.Itoa(bad), both)
			}
			for _, bad := range []int{-1, -2, -16, -256, len(good.tiles), len(good.tiles) + 1, 16, 17, 256, 1 << 32, -(1 << 32), math.MaxInt, math.MinInt} {
				other := s
				other.Number = bad
				change("number "+strconv.Itoa(bad), other)
			}
		}
	}
	return broken
}

// brokenCasts has sprites, or none, with no tiles, with too many, or with an invalid one.
func brokenCasts() map[string]figures {
	broken := map[string]figures{}
	for _, good := range append(goodFigures(), figures{nil, thinTilesOf(1)}, figures{[]impl.Sprite{}, thinTilesOf(16)}) {
		put := func(name string, tiles []impl.Tile) {
			broken[name+" of "+titleOf(good)] = figures{good.list, tiles}
		}
		if len(good.list) > 0 {
			put("nil", nil)
			put("empty", []impl.Tile{})
		}
		for _, n := range []int{17, 18, 32, 40, 256, 257} {
			put("tiles "+strconv.Itoa(n), tilesOf(n))
		}
		for number := range good.tiles {
			for i, bad := range notPixels {
				tiles := slices.Clone(good.tiles)
				tiles[number].Pixels[(7*number+5*i)%64] = bad
				put("tile "+strconv.Itoa(number)+" with "+strconv.Itoa(bad), tiles)
			}
		}
	}
	return broken
}

func brokenFigures() map[string]figures {
	broken := map[string]figures{}
	for _, some := range []map[string]figures{brokenSprites(), brokenCasts()} {
		for name, f := range some {
			broken[name] = f
		}
	}
	return broken
}

func checkFiguresValid(t *testing.T, f figures, want bool) {
	t.Helper()
	if impl.SpritesValid(f.list, f.tiles) != want {
		t.Fatal("wanted", want, titleOf(f))
	}
}

func TestP62SpritesHaveTiles(t *testing.T) {
	forFigures(t, func(f figures) {
		checkFiguresValid(t, f, true)
		for place := range len(f.list) + 1 {
			for _, unknown := range []int{-1, len(f.tiles)} {
				list := slices.Insert(slices.Clone(f.list), place, impl.Sprite{X: 3, Y: 3, Number: unknown})
				checkFiguresValid(t, figures{list, f.tiles}, false)
				if place < len(f.list) {
					list = slices.Clone(f.list)
					list[place].Number = unknown
					checkFiguresValid(t, figures{list, f.tiles}, false)
				}
			}
		}
	})
}

// TestP62EveryPart has every choice of some of the sprites, in their order.
func TestP62EveryPart(t *testing.T) {
	for number, in := range regions {
		f := mixedFigures(number, 12, 16, in)
		for chosen := range 1 << 12 {
			var list []impl.Sprite
			for place, s := range f.list {
				if chosen>>place&1 == 1 {
					list = append(list, s)
				}
			}
			checkFiguresValid(t, figures{list, f.tiles}, true)
		}
		for from := range f.list {
			for to := from; to <= len(f.list); to++ {
				checkFiguresValid(t, figures{f.list[from:to], f.tiles}, true)
			}
		}
	}
}

func TestP62EveryNumberOfSprites(t *testing.T) {
	for n := 0; n <= 60; n++ {
		for _, s := range []impl.Sprite{{}, {X: -16, Y: 64, Number: 1}, {X: 64, Y: -16, Behind: true}} {
			checkFiguresValid(t, figures{slices.Repeat([]impl.Sprite{s}, n), tilesOf(2)}, n <= 12)
		}
	}
}

// TestP62EveryPlace goes past each end by single numbers, with X and with Y, in any place of the list.
func TestP62EveryPlace(t *testing.T) {
	inside := func(n int) bool { return n >= -16 && n <= 64 }
	for _, f := range goodFigures() {
		for place, good := range f.list {
			for n := -300; n <= 300; n++ {
				for _, other := range []int{-17, -16, 0, 31, 64, 65} {
					f.list[place].X, f.list[place].Y = n, other
					checkFiguresValid(t, f, inside(n) && inside(other))
					f.list[place].X, f.list[place].Y = other, n
					checkFiguresValid(t, f, inside(n) && inside(other))
				}
			}
			f.list[place] = good
		}
	}
}

// TestP62EveryNumberOfTheTile goes past each end by single numbers, in any place of the list, with any number of tiles.
func TestP62EveryNumberOfTheTile(t *testing.T) {
	for tiles := 1; tiles <= 16; tiles++ {
		for _, n := range []int{1, 2, 12} {
			f := mixedFigures(tiles, n, tiles, regions[1])
			for place, good := range f.list {
				for number := -20; number <= 40; number++ {
					f.list[place].Number = number
					checkFiguresValid(t, f, number >= 0 && number < tiles)
				}
				f.list[place] = good
			}
		}
	}
}

// TestP62EveryNumberOfTiles: without sprites there need not be a tile, but there may not be too many.
func TestP62EveryNumberOfTiles(t *testing.T) {
	for n := 0; n <= 60; n++ {
		tiles := tilesOf(n)
		checkFiguresValid(t, figures{nil, tiles}, n <= 16)
		checkFiguresValid(t, figures{[]impl.Sprite{}, tiles}, n <= 16)
		for _, number := range []int{0, n - 1, n} {
			checkFiguresValid(t, figures{[]impl.Sprite{{Number: number}}, tiles}, n >= 1 && n <= 16 && number < n)
		}
		checkFiguresValid(t, figures{make([]impl.Sprite, 12), tiles}, n >= 1 && n <= 16)
		checkFiguresValid(t, figures{make([]impl.Sprite, 13), tiles}, false)
	}
	checkFiguresValid(t, figures{[]impl.Sprite{{}}, nil}, false)
	checkFiguresValid(t, figures{nil, []impl.Tile{}}, true)
}

// TestP62EveryTileIsValid has an invalid pixel in any place of any tile, also of a tile that no sprite uses, and also without sprites.
func TestP62EveryTileIsValid(t *testing.T) {
	for tiles := 1; tiles <= 16; tiles++ {
		cast := tilesOf(tiles)
		for number := range cast {
			for place, good := range cast[number].Pixels {
				for _, pixel := range []int{-1, 4, 0, 3} {
					cast[number].Pixels[place] = pixel
					valid := pixel >= 0 && pixel <= 3
					checkFiguresValid(t, figures{nil, cast}, valid)
					checkFiguresValid(t, figures{[]impl.Sprite{{}}, cast}, valid)
					checkFiguresValid(t, figures{[]impl.Sprite{{Number: tiles - 1}}, cast}, valid)
				}
				cast[number].Pixels[place] = good
			}
		}
	}
}

// TestP62EveryWayOfFlipping: flipping, being behind the background, and being equal to another sprite make no sprite invalid.
func TestP62EveryWayOfFlipping(t *testing.T) {
	forFlips(func(across bool, down bool) {
		for _, behind := range bothFlags {
			for n := 1; n <= 13; n++ {
				s := impl.Sprite{X: 5, Y: -3, Number: 1, Across: across, Down: down, Behind: behind}
				checkFiguresValid(t, figures{slices.Repeat([]impl.Sprite{s}, n), tilesOf(2)}, n <= 12)
				checkFiguresValid(t, figures{slices.Repeat([]impl.Sprite{s}, n), tilesOf(1)}, false)
			}
		}
	})
}

func TestP62OtherSprites(t *testing.T) {
	for name, f := range brokenFigures() {
		if impl.SpritesValid(f.list, f.tiles) {
			t.Error(name)
		}
	}
}

// TestP62SpareCapacity has sprites and tiles behind the ends of the lists: what lies there belongs to no list.
func TestP62SpareCapacity(t *testing.T) {
	many := make([]impl.Sprite, 40)
	for place := range many {
		many[place].Number = place
	}
	tiles := append(tilesOf(16), plainTile(4), plainTile(-1))
	for n := range tiles {
		checkFiguresValid(t, figures{many[:0], tiles[:n]}, n <= 16)
		for sprites := range many {
			checkFiguresValid(t, figures{many[:sprites], tiles[:n]}, sprites <= 12 && sprites <= n && n <= 16)
		}
	}
}

// checkOnLines wants all lines to show the sprites of the document's rule, and the promises to hold for them.
func checkOnLines(t *testing.T, f figures) {
	t.Helper()
	for y := range 16 {
		got := impl.SpritesOnLine(f.list, f.tiles, y)
		if want := onLineOf(f.list, y); !slices.Equal(got, want) {
			t.Fatal("line", y, "wanted", want, "got", got, titleOf(f))
		}
		for i, number := range got {
			if i > 0 && number <= got[i-1] {
				t.Fatal("ascending", y, got, titleOf(f))
			}
			if below := y - f.list[number].Y; below < 0 || below > 7 {
				t.Fatal("covers", y, got, titleOf(f))
			}
		}
		if len(got) > 4 || len(got) < 4 && impl.SpritesHidden(f.list, f.tiles, y) != 0 {
			t.Fatal("few", y, got, titleOf(f))
		}
	}
}

func TestP63LinesShowFewSprites(t *testing.T) {
	forFigures(t, func(f figures) { checkOnLines(t, f) })
}

// TestP63EverySprite has a sprite at every place: only its line matters, not whether its columns are in the picture.
func TestP63EverySprite(t *testing.T) {
	for x := -16; x <= 64; x++ {
		for y := -16; y <= 64; y++ {
			s := impl.Sprite{X: x, Y: y, Across: x%2 == 0, Down: x%3 == 0, Behind: x%5 == 0}
			checkOnLines(t, figures{[]impl.Sprite{s}, []impl.Tile{plainTile(y & 3)}})
		}
	}
}

// TestP63EveryChoice has every choice of which of twelve sprites cover a line.
func TestP63EveryChoice(t *testing.T) {
	tiles := thinTilesOf(2)
	for chosen := range 1 << 12 {
		for _, place := range [][3]int{{0, 0, 8}, {0, -7, -8}, {7, 0, -1}, {8, 3, 0}, {15, 8, 7}, {15, 15, 16}} {
			y, on, off := place[0], place[1], place[2]
			f := figures{make([]impl.Sprite, 12), tiles}
			var want []int
			for number := range f.list {
				f.list[number].Y = off
				if chosen>>number&1 == 1 {
					f.list[number].Y = on
					want = append(want, number)
				}
			}
			all := len(want)
			want = want[:min(all, 4)]
			if got := impl.SpritesOnLine(f.list, f.tiles, y); !slices.Equal(got, want) {
				t.Fatal("line", y, "wanted", want, "got", got, titleOf(f))
			}
			if hidden := impl.SpritesHidden(f.list, f.tiles, y); hidden != all-len(want) {
				t.Fatal("line", y, "hidden", hidden, titleOf(f))
			}
		}
	}
}

// TestP63TransparentSprites: sprites without a pixel that can be seen take part as all others do.
func TestP63TransparentSprites(t *testing.T) {
	for n := 0; n <= 12; n++ {
		for _, s := range []impl.Sprite{{}, {X: 8, Y: 8}, {X: -16, Number: 1}, {X: -8, Number: 1}, {X: 32, Number: 1}, {X: 64, Number: 1}} {
			f := figures{slices.Repeat([]impl.Sprite{s}, n), []impl.Tile{{}, plainTile(3)}}
			checkOnLines(t, f)
			if got := impl.SpritesOnLine(f.list, f.tiles, s.Y); !slices.Equal(got, []int{0, 1, 2, 3}[:min(n, 4)]) {
				t.Error(n, got, titleOf(f))
			}
		}
	}
}

// handFigures are the sprites for which results were worked out by hand.
func handFigures() figures {
	return figures{
		[]impl.Sprite{{X: 3, Y: 2}, {X: 60, Y: 2, Number: 1}, {X: 4, Y: -7, Number: 1}, {X: -16, Y: 1, Number: 1}, {X: 9, Y: 2, Number: 1}, {X: 9, Y: 8, Behind: true}, {X: 9, Y: 2, Down: true}},
		[]impl.Tile{{}, plainTile(3)},
	}
}

func TestP63LinesWorkedOutByHand(t *testing.T) {
	f := handFigures()
	for y, want := range [16][]int{
		{2}, {3}, {0, 1, 3, 4}, {0, 1, 3, 4}, {0, 1, 3, 4}, {0, 1, 3, 4}, {0, 1, 3, 4}, {0, 1, 3, 4},
		{0, 1, 3, 4}, {0, 1, 4, 5}, {5}, {5}, {5}, {5}, {5}, {5},
	} {
		if got := impl.SpritesOnLine(f.list, f.tiles, y); !slices.Equal(got, want) {
			t.Error(y, got)
		}
	}
}

func checkNotOnLine(t *testing.T, f figures, y int) {
	t.Helper()
	if got := impl.SpritesOnLine(f.list, f.tiles, y); len(got) != 0 {
		t.Fatal("line", y, got, titleOf(f))
	}
}

func TestP63LinesOutsideThePicture(t *testing.T) {
	forLinesOutside(func(f figures, y int) { checkNotOnLine(t, f, y) })
}

func TestP63OtherSpritesAreOnNoLine(t *testing.T) {
	for _, f := range brokenFigures() {
		for _, y := range []int{0, 1, 2, 3, 7, 8, 14, 15, -1, 16} {
			checkNotOnLine(t, f, y)
		}
	}
}

func TestP63WithoutSprites(t *testing.T) {
	for _, tiles := range [][]impl.Tile{nil, {}, tilesOf(1), tilesOf(16)} {
		for y := -2; y <= 17; y++ {
			checkNotOnLine(t, figures{nil, tiles}, y)
			checkNotOnLine(t, figures{[]impl.Sprite{}, tiles}, y)
		}
	}
}

// TestP63NumbersAreNewMemory overwrites results, and what an append to them could reach: no other result may change.
func TestP63NumbersAreNewMemory(t *testing.T) {
	forFigures(t, func(f figures) {
		before := deepFigures(f)
		for y := range 16 {
			first, second := impl.SpritesOnLine(f.list, f.tiles, y), impl.SpritesOnLine(f.list, f.tiles, y)
			want := onLineOf(before.list, y)
			spoilList(first)
			if !sameFigures(f, before) || !slices.Equal(second, want) || !slices.Equal(impl.SpritesOnLine(f.list, f.tiles, y), want) {
				t.Fatal(y, second, titleOf(before))
			}
		}
	})
}

// TestP63SpareCapacity has further sprites behind the end of the list: they are neither shown nor changed.
func TestP63SpareCapacity(t *testing.T) {
	full := figures{mixedFigures(7, 12, 3, regions[0]).list, thinTilesOf(3)}
	before := deepFigures(full)
	for n := range full.list {
		f := figures{full.list[:n], full.tiles}
		checkOnLines(t, f)
		checkAllSpots(t, f)
		if !sameFigures(full, before) {
			t.Fatal("changed", n)
		}
	}
}

func TestP63CallsDependOnTheirArgumentsAlone(t *testing.T) {
	f, g := mixedFigures(8, 9, 2, regions[0]), mixedFigures(9, 12, 5, regions[3])
	broken := deepFigures(f)
	broken.list[8].Number = 2
	for range 5 {
		checkOnLines(t, f)
		checkNotOnLine(t, broken, 3)
		checkOnLines(t, g)
		checkNotOnLine(t, f, 16)
	}
}

// checkHidden wants the shown and the hidden sprites of every line to be those that cover it.
func checkHidden(t *testing.T, f figures) {
	t.Helper()
	for y := range 16 {
		shown, hidden := impl.SpritesOnLine(f.list, f.tiles, y), impl.SpritesHidden(f.list, f.tiles, y)
		all := len(coveringOf(f.list, y))
		if len(shown)+hidden != all || hidden != max(0, all-4) {
			t.Fatal("line", y, "shown", shown, "hidden", hidden, titleOf(f))
		}
	}
}

func checkNoneHidden(t *testing.T, f figures, y int) {
	t.Helper()
	if got := impl.SpritesHidden(f.list, f.tiles, y); got != -1 {
		t.Fatal("line", y, "hidden", got, titleOf(f))
	}
}

func TestP65HiddenSpritesAreTooMany(t *testing.T) {
	forFigures(t, func(f figures) { checkHidden(t, f) })
}

// TestP65EveryNumberOfSprites has every number of sprites on one line, at each place of their rows, among others that just do not cover it.
func TestP65EveryNumberOfSprites(t *testing.T) {
	for y := range 16 {
		for row := range 8 {
			for on := 0; on <= 12; on++ {
				want := [13]int{0, 0, 0, 0, 0, 1, 2, 3, 4, 5, 6, 7, 8}[on]
				list := slices.Repeat([]impl.Sprite{{Y: y + 1}, {Y: y - 8}}, 6)
				for i := range on {
					// 7 and 12 have no common factor, so these are different places.
					list[7*i%12].Y = y - row
				}
				only := slices.Repeat([]impl.Sprite{{Y: y - row, X: 64}}, on)
				for _, f := range []figures{{list, tilesOf(1)}, {only, tilesOf(1)}} {
					if got := impl.SpritesHidden(f.list, f.tiles, y); got != want {
						t.Fatal("line", y, "wanted", want, "got", got, titleOf(f))
					}
				}
			}
		}
	}
}

// TestP65EveryPlace has five sprites at every place: one of them is hidden in each line that they cover.
func TestP65EveryPlace(t *testing.T) {
	for place := -16; place <= 64; place++ {
		for _, x := range edgePlaces {
			f := figures{slices.Repeat([]impl.Sprite{{X: x, Y: place}}, 5), tilesOf(1)}
			for y := range 16 {
				if got := impl.SpritesHidden(f.list, f.tiles, y); got != digit(y >= place && y <= place+7) {
					t.Fatal(x, place, y, got)
				}
			}
		}
	}
}

func TestP65LinesWorkedOutByHand(t *testing.T) {
	f := handFigures()
	for y, want := range [16]int{0, 0, 1, 1, 1, 1, 1, 1, 2, 1, 0, 0, 0, 0, 0, 0} {
		if got := impl.SpritesHidden(f.list, f.tiles, y); got != want {
			t.Error(y, got)
		}
	}
}

func TestP65WithoutSprites(t *testing.T) {
	for _, tiles := range [][]impl.Tile{nil, {}, tilesOf(1), tilesOf(16)} {
		for y := -20; y <= 40; y++ {
			want := -digit(y < 0 || y > 15)
			if impl.SpritesHidden(nil, tiles, y) != want || impl.SpritesHidden([]impl.Sprite{}, tiles, y) != want {
				t.Error(len(tiles), y)
			}
		}
	}
}

func TestP65LinesOutsideThePicture(t *testing.T) {
	forLinesOutside(func(f figures, y int) { checkNoneHidden(t, f, y) })
}

func TestP65OtherSpritesAreNotCounted(t *testing.T) {
	for _, f := range brokenFigures() {
		for _, y := range []int{0, 1, 2, 3, 7, 8, 14, 15, -1, 16} {
			checkNoneHidden(t, f, y)
		}
	}
}

func TestP65CallsDependOnTheirArgumentsAlone(t *testing.T) {
	f, g := mixedFigures(8, 9, 2, regions[0]), mixedFigures(9, 12, 5, regions[3])
	broken := deepFigures(f)
	broken.tiles[1].Pixels[63] = 4
	for range 5 {
		checkHidden(t, f)
		checkNoneHidden(t, broken, 3)
		checkHidden(t, g)
		checkNoneHidden(t, f, -1)
	}
}
