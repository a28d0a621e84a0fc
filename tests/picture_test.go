package tests

import (
	"math"
	"slices"
	"testing"

	"loop.example/homeconsole/impl"
)

// fullTilesOf makes tiles that are all different and have no pixel that is 0.
func fullTilesOf(n int) []impl.Tile {
	var tiles []impl.Tile
	for number := range n {
		tiles = append(tiles, mixedTile(130+number, []int{1, 2, 3}))
	}
	return tiles
}

func figuresOf(s impl.Scene) figures {
	return figures{s.Over, s.Back.Tiles}
}

func deepScene(s impl.Scene) impl.Scene {
	return impl.Scene{Back: deepField(s.Back), Over: slices.Clone(s.Over)}
}

func sameScene(a impl.Scene, b impl.Scene) bool {
	return sameField(a.Back, b.Back) && slices.Equal(a.Over, b.Over)
}

func labelOf(s impl.Scene) string {
	return nameOf(s.Back) + "; " + titleOf(figuresOf(s))
}

// plainScene has a background of one value, and sprites whose tiles are those of the values 0 to 3.
func plainScene(back int, list ...impl.Sprite) impl.Scene {
	tiles := []impl.Tile{plainTile(0), plainTile(1), plainTile(2), plainTile(3)}
	return impl.Scene{Back: impl.Field{W: 1, Map: []int{back}, Tiles: tiles}, Over: list}
}

// backdrop tells the columns, rows, tiles and shifts of a background.
type backdrop struct {
	w, rows, tiles int
	x, y           int
}

var backdrops = []backdrop{
	{1, 1, 1, 0, 0},
	{2, 3, 2, 5, 9},
	{3, 1, 5, 24, 8},
	{4, 2, 3, 0, 255},
	{1, 8, 16, 255, 0},
	{8, 8, 16, 191, 130},
}

// mixedScene has sprites of the tiles of its background, half of whose pixels are 0.
func mixedScene(seed int, n int, b backdrop, in region) impl.Scene {
	f := mixedFigures(seed, n, b.tiles, in)
	back := shifted(fieldOf(b.w, b.rows, b.tiles), b.x, b.y)
	back.Tiles = f.tiles
	return impl.Scene{Back: back, Over: f.list}
}

// forScenes calls a check for every number of sprites in every region over several backgrounds, none of which may be changed.
func forScenes(t *testing.T, check func(s impl.Scene)) {
	t.Helper()
	for n := 0; n <= 12; n++ {
		for number, in := range regions {
			for place, b := range backdrops {
				s := mixedScene(1000*n+100*number+place, n, b, in)
				before := deepScene(s)
				check(s)
				if !sameScene(s, before) {
					t.Fatal("changed", labelOf(before), labelOf(s))
				}
			}
		}
	}
}

// drawn is the picture of a scene, written from the document, to check the program against something that is not the program.
func drawn(s impl.Scene) picture {
	all, seen := pictureOf(s.Back), seenOf(figuresOf(s))
	for y := range all {
		for x, back := range all[y] {
			there := seen[y][x]
			if there != noSpot && (!s.Over[there.number].Behind || back == 0) {
				all[y][x] = 4 + there.pixel
			}
		}
	}
	return all
}

// scenePixels is the picture as ScenePixel tells it.
func scenePixels(s impl.Scene) picture {
	var all picture
	for y := range all {
		for x := range all[y] {
			all[y][x] = impl.ScenePixel(s, x, y)
		}
	}
	return all
}

// checkScenePixels wants ScenePixel to tell a certain picture.
func checkScenePixels(t *testing.T, s impl.Scene, want *picture) {
	t.Helper()
	for y := range want {
		for x, pixel := range want[y] {
			if got := impl.ScenePixel(s, x, y); got != pixel {
				t.Fatal("at", x, y, "wanted", pixel, "got", got, labelOf(s))
			}
		}
	}
}

func checkNoScenePixel(t *testing.T, s impl.Scene, x int, y int) {
	t.Helper()
	if got := impl.ScenePixel(s, x, y); got != -1 {
		t.Fatal("at", x, y, got, labelOf(s))
	}
}

// goodScenes are those that are spoiled in one part to find out whether it is checked.
func goodScenes() []impl.Scene {
	return []impl.Scene{
		mixedScene(1, 0, backdrops[0], regions[0]),
		mixedScene(2, 1, backdrops[1], regions[0]),
		mixedScene(3, 5, backdrops[2], regions[3]),
		mixedScene(4, 12, backdrops[5], regions[1]),
	}
}

// forBrokenScenes calls a check for scenes with an invalid background, with no, one, five and the most sprites, and for scenes with invalid sprites over a valid background.
func forBrokenScenes(check func(s impl.Scene)) {
	for _, f := range brokenFields() {
		check(impl.Scene{Back: f})
		for _, n := range []int{1, 5, 12} {
			check(impl.Scene{Back: f, Over: slices.Repeat([]impl.Sprite{{X: 2, Y: 1}}, n)})
		}
	}
	for _, f := range brokenFigures() {
		check(impl.Scene{Back: impl.Field{W: 1, Map: []int{0}, Tiles: f.tiles}, Over: f.list})
	}
}

func checkSceneValid(t *testing.T, s impl.Scene, want bool) {
	t.Helper()
	if impl.SceneValid(s) != want {
		t.Fatal("wanted", want, labelOf(s))
	}
}

func TestP66ScenesHaveValidParts(t *testing.T) {
	forScenes(t, func(s impl.Scene) {
		checkSceneValid(t, s, true)
		checkSceneValid(t, impl.Scene{Back: s.Back}, true)
		checkSceneValid(t, impl.Scene{Back: s.Back, Over: []impl.Sprite{}}, true)
		for place := range len(s.Over) + 1 {
			for _, unknown := range []int{-1, len(s.Back.Tiles)} {
				list := slices.Insert(slices.Clone(s.Over), place, impl.Sprite{X: 3, Y: 3, Number: unknown})
				checkSceneValid(t, impl.Scene{Back: s.Back, Over: list}, false)
				if place < len(s.Over) {
					list = slices.Clone(s.Over)
					list[place].Number = unknown
					checkSceneValid(t, impl.Scene{Back: s.Back, Over: list}, false)
				}
			}
		}
	})
}

// TestP66EveryPart has every choice of some of the sprites, in their order.
func TestP66EveryPart(t *testing.T) {
	s := mixedScene(5, 12, backdrops[5], regions[2])
	for chosen := range 1 << 12 {
		var list []impl.Sprite
		for place, sprite := range s.Over {
			if chosen>>place&1 == 1 {
				list = append(list, sprite)
			}
		}
		checkSceneValid(t, impl.Scene{Back: s.Back, Over: list}, true)
	}
}

func TestP66EveryNumberOfSprites(t *testing.T) {
	for n := 0; n <= 60; n++ {
		for _, sprite := range []impl.Sprite{{}, {X: -16, Y: 64, Number: 3}, {X: 64, Y: -16, Behind: true}} {
			checkSceneValid(t, plainScene(2, slices.Repeat([]impl.Sprite{sprite}, n)...), n <= 12)
		}
	}
}

// TestP66TilesAreThoseOfTheBackground: any of its tiles may be used by a sprite, also one that is not in its table, but no other number.
func TestP66TilesAreThoseOfTheBackground(t *testing.T) {
	for tiles := 1; tiles <= 17; tiles++ {
		for used := range tiles {
			back := impl.Field{W: 1, Map: []int{used}, Tiles: tilesOf(tiles)}
			for number := -20; number <= 40; number++ {
				for _, n := range []int{1, 2, 12} {
					for _, place := range []int{0, n - 1} {
						list := make([]impl.Sprite, n)
						list[place].Number = number
						checkSceneValid(t, impl.Scene{Back: back, Over: list}, tiles <= 16 && number >= 0 && number < tiles)
					}
				}
			}
		}
	}
	for _, number := range []int{1 << 32, -(1 << 32), math.MaxInt, math.MinInt} {
		checkSceneValid(t, plainScene(1, impl.Sprite{Number: number}), false)
	}
}

// TestP66EveryPlace goes past each end by single numbers, with X and with Y, in the first and in the last sprite.
func TestP66EveryPlace(t *testing.T) {
	inside := func(n int) bool { return n >= -16 && n <= 64 }
	for n := -300; n <= 300; n++ {
		for _, other := range []int{-17, -16, 0, 31, 64, 65} {
			for _, place := range []int{0, 11} {
				s := plainScene(3, make([]impl.Sprite, 12)...)
				s.Over[place].X, s.Over[place].Y = n, other
				checkSceneValid(t, s, inside(n) && inside(other))
				s.Over[place].X, s.Over[place].Y = other, n
				checkSceneValid(t, s, inside(n) && inside(other))
			}
		}
	}
}

// TestP66WithoutTiles: sprites alone are valid without tiles if there are none of them, but a background is not.
func TestP66WithoutTiles(t *testing.T) {
	for _, tiles := range [][]impl.Tile{nil, {}} {
		for _, table := range [][]int{nil, {}, {0}} {
			checkSceneValid(t, impl.Scene{Back: impl.Field{W: 1, Map: table, Tiles: tiles}}, false)
			checkSceneValid(t, impl.Scene{Back: impl.Field{W: 1, Map: table, Tiles: tiles}, Over: []impl.Sprite{{}}}, false)
		}
	}
	checkSceneValid(t, impl.Scene{}, false)
	checkSceneValid(t, impl.Scene{Over: []impl.Sprite{{}}}, false)
}

// TestP66EveryFlag: flipping and being behind the background make no sprite valid or invalid.
func TestP66EveryFlag(t *testing.T) {
	forFlips(func(across bool, down bool) {
		for _, behind := range bothFlags {
			sprite := impl.Sprite{X: 5, Y: -3, Number: 3, Across: across, Down: down, Behind: behind}
			checkSceneValid(t, plainScene(1, sprite), true)
			sprite.Number = 4
			checkSceneValid(t, plainScene(1, sprite), false)
		}
	})
}

func TestP66OtherScenes(t *testing.T) {
	forBrokenScenes(func(s impl.Scene) { checkSceneValid(t, s, false) })
}

// TestP66SpareCapacity has sprites, numbers and tiles behind the ends of the lists: what lies there belongs to no scene.
func TestP66SpareCapacity(t *testing.T) {
	list := make([]impl.Sprite, 20)
	for place := range list {
		list[place].Number = place
	}
	table, tiles := []int{0, 0, 0, 99}, append(tilesOf(16), plainTile(4))
	for n := range tiles {
		for sprites := range list {
			for numbers := range table {
				s := impl.Scene{Back: impl.Field{W: 1, Map: table[:numbers], Tiles: tiles[:n]}, Over: list[:sprites]}
				checkSceneValid(t, s, n >= 1 && n <= 16 && numbers >= 1 && sprites <= n && sprites <= 12)
			}
		}
	}
}

func TestP67PixelsFollowTheRule(t *testing.T) {
	forScenes(t, func(s impl.Scene) {
		want := drawn(s)
		checkScenePixels(t, s, &want)
	})
}

// TestP67PixelsComeFromTheBackgroundOrASprite uses nothing but the promise.
func TestP67PixelsComeFromTheBackgroundOrASprite(t *testing.T) {
	forScenes(t, func(s impl.Scene) {
		for y := range 16 {
			for x := range 32 {
				got, back, there := impl.ScenePixel(s, x, y), impl.FieldPixel(s.Back, x, y), spotAt(figuresOf(s), x, y)
				switch {
				case got < 4 && got != back:
					t.Fatal("not the background at", x, y, got, back, labelOf(s))
				case got >= 4 && (there == noSpot || got != 4+there.pixel):
					t.Fatal("not the sprite at", x, y, got, there, labelOf(s))
				case got >= 4 && s.Over[there.number].Behind && back != 0:
					t.Fatal("not behind at", x, y, got, back, labelOf(s))
				case got < 4 && there != noSpot && (back == 0 || !s.Over[there.number].Behind):
					t.Fatal("sprite not seen at", x, y, got, there, labelOf(s))
				}
			}
		}
	})
}

func TestP67WithoutSprites(t *testing.T) {
	forFields(func(f impl.Field) {
		if len(f.Tiles) != 2 && len(f.Tiles) != 16 {
			return
		}
		for _, list := range [][]impl.Sprite{nil, {}} {
			s := impl.Scene{Back: f, Over: list}
			for _, y := range edgeLines {
				for x := range 32 {
					if got, want := impl.ScenePixel(s, x, y), impl.FieldPixel(f, x, y); got != want {
						t.Fatal("at", x, y, "wanted", want, "got", got, nameOf(f))
					}
				}
			}
		}
	})
}

// TestP67EveryTwoPixels has each pixel of a sprite over, and behind, each one of the background: a row for each pixel of the sprite.
func TestP67EveryTwoPixels(t *testing.T) {
	over := [4][4]int{{0, 1, 2, 3}, {5, 5, 5, 5}, {6, 6, 6, 6}, {7, 7, 7, 7}}
	under := [4][4]int{{0, 1, 2, 3}, {5, 1, 2, 3}, {6, 1, 2, 3}, {7, 1, 2, 3}}
	for pixel := range 4 {
		for back := range 4 {
			sprite := impl.Sprite{X: 4, Y: 2, Number: pixel}
			if got := impl.ScenePixel(plainScene(back, sprite), 8, 7); got != over[pixel][back] {
				t.Error("over", pixel, back, got)
			}
			sprite.Behind = true
			if got := impl.ScenePixel(plainScene(back, sprite), 8, 7); got != under[pixel][back] {
				t.Error("behind", pixel, back, got)
			}
			if got := impl.ScenePixel(plainScene(back, sprite), 3, 7); got != back {
				t.Error("beside", pixel, back, got)
			}
		}
	}
}

// TestP67TheFirstSpriteDecides: where it is behind the background, a later one that is not is not seen either.
func TestP67TheFirstSpriteDecides(t *testing.T) {
	for back := range 4 {
		for first := 1; first <= 3; first++ {
			for later := 0; later <= 3; later++ {
				for n := 1; n <= 11; n++ {
					list := append([]impl.Sprite{{X: 9, Y: 3, Number: first, Behind: true}}, slices.Repeat([]impl.Sprite{{X: 9, Y: 3, Number: later}}, n)...)
					want := back
					if back == 0 {
						want = 4 + first
					}
					if got := impl.ScenePixel(plainScene(back, list...), 12, 6); got != want {
						t.Fatal(back, first, later, n, "wanted", want, "got", got)
					}
				}
			}
		}
	}
}

// TestP67EveryOrder has up to six sprites in every order, each of which is beside the line, transparent, behind the background, or in front: only the first of the first four on the line that has a pixel counts.
func TestP67EveryOrder(t *testing.T) {
	kinds := []impl.Sprite{{X: 5, Y: 9, Number: 3}, {X: 5, Y: 3}, {X: 5, Y: 3, Number: 1, Behind: true}, {X: 5, Y: 3, Number: 3}}
	for n := 1; n <= 6; n++ {
		for choice := range 1 << (2 * n) {
			list := make([]impl.Sprite, n)
			first, onLine := 0, 0
			for number := range list {
				kind := choice >> (2 * number) & 3
				list[number] = kinds[kind]
				if first == 0 && onLine < 4 && kind >= 2 {
					first = kind
				}
				onLine += digit(kind > 0)
			}
			for _, back := range []int{0, 2} {
				want := back
				if first == 3 {
					want = 7
				} else if first == 2 && back == 0 {
					want = 5
				}
				if s := plainScene(back, list...); impl.ScenePixel(s, 8, 7) != want {
					t.Fatal("wanted", want, "got", impl.ScenePixel(s, 8, 7), labelOf(s))
				}
			}
		}
	}
}

// TestP67ManySpritesOnALine has solid sprites side by side: those after the fourth one on a line are not seen there, wherever they are.
func TestP67ManySpritesOnALine(t *testing.T) {
	for n := 0; n <= 12; n++ {
		for _, behind := range bothFlags {
			s := plainScene(0)
			for place := range n {
				s.Over = append(s.Over, impl.Sprite{X: 2 * (n - 1 - place), Y: 5, Number: 1 + place%3, Behind: behind})
			}
			for x := range 32 {
				want := 0
				for place := min(n, 4) - 1; place >= 0; place-- {
					if start := 2 * (n - 1 - place); x >= start && x <= start+7 {
						want = 5 + place%3
					}
				}
				if got := impl.ScenePixel(s, x, 5); got != want {
					t.Fatal("at", x, "wanted", want, "got", got, labelOf(s))
				}
			}
		}
	}
}

// TestP67EveryPlaceOfASprite has a sprite at every X and Y, also wholly outside the picture, and looks at the edges of the picture.
func TestP67EveryPlaceOfASprite(t *testing.T) {
	for atX := -16; atX <= 64; atX++ {
		for atY := -16; atY <= 64; atY++ {
			sprite := impl.Sprite{X: atX, Y: atY, Number: 2, Behind: (atX+atY)%2 == 0}
			for _, back := range []int{0, 1} {
				s := plainScene(back, sprite)
				for _, at := range [][2]int{{0, 0}, {31, 0}, {0, 15}, {31, 15}, {12, 7}, {0, 9}, {31, 6}, {20, 0}, {8, 15}} {
					x, y := at[0], at[1]
					want := back
					if x >= atX && x <= atX+7 && y >= atY && y <= atY+7 && (back == 0 || !sprite.Behind) {
						want = 6
					}
					if got := impl.ScenePixel(s, x, y); got != want {
						t.Fatal("at", x, y, "wanted", want, "got", got, labelOf(s))
					}
				}
			}
		}
	}
}

// TestP67EdgesOfSprites has sprites that are partly outside the picture on each side and at each corner.
func TestP67EdgesOfSprites(t *testing.T) {
	for _, b := range backdrops {
		for _, atX := range []int{-8, -7, -4, -1, 0, 12, 24, 25, 28, 31, 32} {
			for _, atY := range []int{-8, -7, -4, -1, 0, 4, 8, 9, 12, 15, 16} {
				s := mixedScene(7, 0, b, regions[0])
				s.Over = []impl.Sprite{{X: atX, Y: atY, Down: atX < 0}, {X: 31 - atX, Y: atY, Number: b.tiles - 1, Across: true, Behind: true}}
				want := drawn(s)
				checkScenePixels(t, s, &want)
			}
		}
	}
}

// TestP67EveryFlip has a single pixel in each place of the tile of a sprite, over a background with a single hole.
func TestP67EveryFlip(t *testing.T) {
	for place := range 64 {
		hole, dot := plainTile(3), impl.Tile{}
		hole.Pixels[place], dot.Pixels[place] = 0, 1
		forFlips(func(across bool, down bool) {
			column, row := place%8, place/8
			if across {
				column = 7 - column
			}
			if down {
				row = 7 - row
			}
			for _, behind := range bothFlags {
				back := impl.Field{W: 1, Map: []int{0}, Tiles: []impl.Tile{hole, dot}}
				s := impl.Scene{Back: back, Over: []impl.Sprite{{X: 8, Y: 8, Number: 1, Across: across, Down: down, Behind: behind}}}
				for y := 8; y <= 15; y++ {
					for x := 8; x <= 15; x++ {
						inHole := x == 8+place%8 && y == 8+place/8
						want := 3 - 3*digit(inHole)
						if x == 8+column && y == 8+row && (inHole || !behind) {
							want = 5
						}
						if got := impl.ScenePixel(s, x, y); got != want {
							t.Fatal("place", place, "at", x, y, "wanted", want, "got", got, labelOf(s))
						}
					}
				}
			}
		})
	}
}

// TestP67ShiftsMoveTheBackgroundAlone has every shift in each direction under sprites that stay where they are.
func TestP67ShiftsMoveTheBackgroundAlone(t *testing.T) {
	back := thinTilesOf(3)
	for _, b := range backdrops {
		s := mixedScene(8, 0, backdrop{b.w, b.rows, 3, 0, 0}, regions[0])
		s.Back.Tiles = append(slices.Clone(back), plainTile(2))
		s.Over = []impl.Sprite{{X: -3, Y: -2, Number: 3, Behind: true}, {X: 12, Y: 4, Number: 3}, {X: 26, Y: 10, Number: 3, Behind: true}}
		painting := paintingOf(s.Back)
		for shift := 0; shift <= 255; shift++ {
			for _, shifts := range [][2]int{{shift, 0}, {0, shift}, {shift, 255 - shift}} {
				s.Back = shifted(s.Back, shifts[0], shifts[1])
				all := shown(painting, shifts[0], shifts[1])
				for _, at := range [][2]int{{0, 0}, {4, 5}, {5, 6}, {12, 4}, {19, 11}, {20, 12}, {26, 10}, {31, 15}, {0, 15}, {31, 0}} {
					x, y := at[0], at[1]
					want := all[y][x]
					if x >= 12 && x <= 19 && y >= 4 && y <= 11 || want == 0 && (x <= 4 && y <= 5 || x >= 26 && y >= 10) {
						want = 6
					}
					if got := impl.ScenePixel(s, x, y); got != want {
						t.Fatal("at", x, y, "wanted", want, "got", got, labelOf(s))
					}
				}
			}
		}
	}
}

// handScene is the scene for which results were worked out by hand: a frame beside nothing, with sprites in front, behind, hidden and partly outside.
func handScene() impl.Scene {
	frame := tileOf("33333333", "30000003", "30000003", "30000003", "30000003", "30000003", "30000003", "33333333")
	arrow := tileOf("00000001", "00000012", "00000123", "33333333", "00000123", "00000012", "00000001", "20000000")
	return impl.Scene{
		Back: impl.Field{W: 2, Map: []int{0, 3}, Tiles: []impl.Tile{frame, plainTile(2), arrow, {}}},
		Over: []impl.Sprite{
			{X: 2, Y: 0, Number: 2},
			{X: 4, Y: 0, Number: 1, Behind: true},
			{X: 12, Y: 0, Number: 1},
			{X: 28, Y: 0, Number: 1, Behind: true},
			{X: 20, Y: 0, Number: 1},
			{X: -4, Y: 10, Number: 1, Behind: true},
			{X: 6, Y: 10, Number: 3},
			{X: 6, Y: 10, Number: 1, Behind: true},
			{X: 6, Y: 10, Number: 1},
		},
	}
}

// handLine is a line of a scene that was worked out by hand.
type handLine struct {
	s    impl.Scene
	y    int
	line string
}

func handLines() []handLine {
	s, moved := handScene(), handScene()
	moved.Back = shifted(moved.Back, 3, 7)
	return []handLine{
		{s, 0, "33333333" + "65666666" + "66663333" + "00006666"},
		{s, 1, "30006663" + "56666666" + "66660003" + "00006666"},
		{s, 3, "30777777" + "77666666" + "66660003" + "00006666"},
		{s, 7, "33633333" + "66666666" + "66663333" + "00006666"},
		{s, 8, "33333333" + "00000000" + "33333333" + "00000000"},
		{s, 9, "30000003" + "00000000" + "30000003" + "00000000"},
		{s, 10, "36660063" + "66666600" + "30000003" + "00000000"},
		{s, 15, "33333333" + "66666600" + "33333333" + "00000000"},
		{moved, 0, "33333666" + "65666666" + "66663000" + "00006333"},
		{moved, 9, "33333000" + "00000333" + "33333000" + "00000333"},
		{moved, 10, "66663066" + "66666300" + "00003000" + "00000300"},
	}
}

func TestP67PixelsWorkedOutByHand(t *testing.T) {
	for _, c := range handLines() {
		for x, pixel := range digitsLine(c.line) {
			if got := impl.ScenePixel(c.s, x, c.y); got != pixel {
				t.Error("at", x, c.y, "wanted", pixel, "got", got, nameOf(c.s.Back))
			}
		}
	}
}

func TestP67PlacesOutsideThePicture(t *testing.T) {
	for _, s := range goodScenes() {
		for x := -40; x <= 80; x++ {
			for y := -24; y <= 40; y++ {
				inside := x >= 0 && x < 32 && y >= 0 && y < 16
				if (impl.ScenePixel(s, x, y) == -1) == inside {
					t.Fatal(x, y, labelOf(s))
				}
			}
		}
		for _, x := range notColumns {
			for _, y := range slices.Concat(edgeLines, notLines) {
				checkNoScenePixel(t, s, x, y)
			}
		}
		for _, y := range notLines {
			for _, x := range edgeColumns {
				checkNoScenePixel(t, s, x, y)
			}
		}
	}
}

// TestP67SpritesOutsideThePicture: also where a sprite reaches, nothing outside the picture has a pixel.
func TestP67SpritesOutsideThePicture(t *testing.T) {
	for place := -16; place <= 64; place++ {
		for _, back := range []int{0, 3} {
			across, down := plainScene(back, impl.Sprite{X: place, Y: 4, Number: 1}), plainScene(back, impl.Sprite{X: 4, Y: place, Number: 1})
			for n := place; n < place+8; n++ {
				if n < 0 || n > 31 {
					checkNoScenePixel(t, across, n, 6)
				}
				if n < 0 || n > 15 {
					checkNoScenePixel(t, down, 6, n)
				}
			}
		}
	}
}

func TestP67OtherScenesHaveNoPixels(t *testing.T) {
	forBrokenScenes(func(s impl.Scene) {
		for _, at := range [][2]int{{0, 0}, {3, 2}, {9, 8}, {31, 15}, {-1, 0}, {0, 16}, {32, 15}} {
			checkNoScenePixel(t, s, at[0], at[1])
		}
	})
}

// TestP67AnInvalidPartHidesAll: also a sprite that is not on the line, or a tile that nothing uses.
func TestP67AnInvalidPartHidesAll(t *testing.T) {
	for _, s := range goodScenes() {
		for _, sprite := range []impl.Sprite{{X: -17}, {X: 65}, {Y: -17}, {Y: 65}, {Y: 40, Number: -1}, {Y: 40, Number: len(s.Back.Tiles)}} {
			for place := 0; place <= len(s.Over); place++ {
				checkNoScenePixel(t, impl.Scene{Back: s.Back, Over: slices.Insert(slices.Clone(s.Over), place, sprite)}, 5, 5)
			}
		}
		for _, pixel := range []int{-1, 4} {
			other := deepScene(s)
			other.Back.Tiles = append(other.Back.Tiles, plainTile(0))
			other.Back.Tiles[len(s.Back.Tiles)].Pixels[17] = pixel
			checkNoScenePixel(t, other, 5, 5)
		}
		checkNoScenePixel(t, impl.Scene{Back: shifted(s.Back, 256, 0), Over: s.Over}, 5, 5)
		checkNoScenePixel(t, impl.Scene{Back: shifted(s.Back, 0, -1), Over: s.Over}, 5, 5)
	}
}

func TestP67CallsDependOnTheirArgumentsAlone(t *testing.T) {
	s, u := mixedScene(8, 9, backdrops[1], regions[0]), mixedScene(9, 12, backdrops[5], regions[3])
	broken := deepScene(s)
	broken.Over[8].Number = 2
	first, second := drawn(s), drawn(u)
	for range 3 {
		checkScenePixels(t, s, &first)
		checkNoScenePixel(t, broken, 3, 3)
		checkScenePixels(t, u, &second)
		checkNoScenePixel(t, s, 32, 3)
	}
}
