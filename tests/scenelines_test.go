package tests

import (
	"slices"
	"testing"

	"loop.example/homeconsole/impl"
)

// checkSceneLines wants all lines of a scene to be those of a picture.
func checkSceneLines(t *testing.T, s impl.Scene, want *picture) {
	t.Helper()
	for y := range want {
		if got := impl.SceneLine(s, y); !slices.Equal(got, want[y][:]) {
			t.Fatal("line", y, "wanted", want[y], "got", got, labelOf(s))
		}
	}
}

func checkNoSceneLine(t *testing.T, s impl.Scene, y int) {
	t.Helper()
	if line := impl.SceneLine(s, y); len(line) != 0 {
		t.Fatal("line", y, line, labelOf(s))
	}
}

// TestP68LinesConsistOfPixels uses nothing but the promise.
func TestP68LinesConsistOfPixels(t *testing.T) {
	forScenes(t, func(s impl.Scene) {
		for y := range 16 {
			line := impl.SceneLine(s, y)
			if len(line) != 32 {
				t.Fatal("pixels", len(line), y, labelOf(s))
			}
			for x, pixel := range line {
				if got := impl.ScenePixel(s, x, y); got != pixel {
					t.Fatal("at", x, y, "line", pixel, "pixel", got, labelOf(s))
				}
			}
		}
	})
}

func TestP68LinesFollowTheRule(t *testing.T) {
	forScenes(t, func(s impl.Scene) {
		want := drawn(s)
		checkSceneLines(t, s, &want)
	})
}

func TestP68WithoutSprites(t *testing.T) {
	forFields(func(f impl.Field) {
		for _, list := range [][]impl.Sprite{nil, {}} {
			for y := range 16 {
				got, want := impl.SceneLine(impl.Scene{Back: f, Over: list}, y), impl.FieldLine(f, y)
				if !slices.Equal(got, want) || len(got) != 32 {
					t.Fatal("line", y, "wanted", want, "got", got, nameOf(f))
				}
			}
		}
	})
}

// TestP68EveryPlaceOfASprite has a sprite at every X with some Y, and at every Y with some X, also wholly outside the picture.
func TestP68EveryPlaceOfASprite(t *testing.T) {
	for _, b := range []backdrop{{2, 1, 2, 0, 0}, {3, 5, 2, 250, 7}} {
		s := mixedScene(21, 0, b, regions[0])
		for place := -16; place <= 64; place++ {
			for i, other := range edgePlaces {
				for _, sprite := range []impl.Sprite{{X: place, Y: other}, {X: other, Y: place, Number: 1}} {
					sprite.Across, sprite.Down, sprite.Behind = i%2 == 1, i%4 > 1, i%3 == 0
					s.Over = []impl.Sprite{sprite}
					want := drawn(s)
					checkSceneLines(t, s, &want)
				}
			}
		}
	}
}

// TestP68EveryShift has all shifts in each direction, for tables of several sizes, under sprites in front and behind.
func TestP68EveryShift(t *testing.T) {
	for number, b := range backdrops {
		s := mixedScene(30+number, 6, b, regions[1])
		seen, painting := seenOf(figuresOf(s)), paintingOf(s.Back)
		for shift := 0; shift <= 255; shift++ {
			for _, shifts := range [][2]int{{shift, 0}, {0, shift}, {shift, 255 - shift}} {
				s.Back = shifted(s.Back, shifts[0], shifts[1])
				want := shown(painting, shifts[0], shifts[1])
				for y := range want {
					for x, there := range seen[y] {
						if there != noSpot && (want[y][x] == 0 || !s.Over[there.number].Behind) {
							want[y][x] = 4 + there.pixel
						}
					}
				}
				checkSceneLines(t, s, &want)
			}
		}
	}
}

// TestP68ShiftingByTheSizeOfTheTable: the lines stay as they are.
func TestP68ShiftingByTheSizeOfTheTable(t *testing.T) {
	forScenes(t, func(s impl.Scene) {
		width, height := 8*s.Back.W, len(s.Back.Map)/s.Back.W*8
		want := drawn(s)
		for _, by := range [][2]int{{width, 0}, {-width, 0}, {0, height}, {0, -height}, {width, height}} {
			u := impl.Scene{Back: impl.ShiftField(s.Back, by[0], by[1]), Over: s.Over}
			checkSceneLines(t, u, &want)
		}
	})
}

// TestP68EveryChoiceOfSpritesBehind has every choice of which of eight sprites, two over each other at four places of a line, are behind a background with holes.
func TestP68EveryChoiceOfSpritesBehind(t *testing.T) {
	for chosen := range 1 << 8 {
		s := mixedScene(40, 0, backdrops[1], regions[0])
		for place := range 8 {
			s.Over = append(s.Over, impl.Sprite{X: 9 * (place % 2), Y: 3 + 6*(place/4) + place%4, Number: place % 2, Behind: chosen>>place&1 == 1})
		}
		want := drawn(s)
		checkSceneLines(t, s, &want)
	}
}

func TestP68LinesWorkedOutByHand(t *testing.T) {
	for _, c := range handLines() {
		if got := impl.SceneLine(c.s, c.y); !slices.Equal(got, digitsLine(c.line)) {
			t.Error(c.y, nameOf(c.s.Back), got)
		}
	}
}

func TestP68LinesOutsideThePicture(t *testing.T) {
	for _, s := range append(goodScenes(), handScene()) {
		for _, y := range notLines {
			checkNoSceneLine(t, s, y)
		}
		for y := -300; y <= 300; y++ {
			if n := len(impl.SceneLine(s, y)); n != 32*digit(y >= 0 && y < 16) {
				t.Fatal(y, n, labelOf(s))
			}
		}
	}
}

func TestP68OtherScenesHaveNoLines(t *testing.T) {
	forBrokenScenes(func(s impl.Scene) {
		for _, y := range []int{0, 2, 8, 15, -1, 16} {
			checkNoSceneLine(t, s, y)
		}
	})
}

// TestP68LinesAreNewMemory overwrites lines, and what an append to them could reach: neither the scene nor another line may change.
func TestP68LinesAreNewMemory(t *testing.T) {
	forScenes(t, func(s impl.Scene) {
		before := deepScene(s)
		for y := range 16 {
			first, second := impl.SceneLine(s, y), impl.SceneLine(s, y)
			want := slices.Clone(second)
			spoilList(first)
			if !sameScene(s, before) || !slices.Equal(second, want) || !slices.Equal(impl.SceneLine(s, y), want) {
				t.Fatal(y, labelOf(before))
			}
		}
	})
}

// TestP68ChangingTheSceneAfterwards: a line stays what it was.
func TestP68ChangingTheSceneAfterwards(t *testing.T) {
	for _, s := range goodScenes() {
		want := drawn(s)
		var lines [][]int
		for y := range 16 {
			lines = append(lines, impl.SceneLine(s, y))
		}
		spoilField(s.Back)
		clear(s.Over)
		for y, line := range lines {
			if !slices.Equal(line, want[y][:]) {
				t.Error(y, line)
			}
		}
	}
}

// TestP68SpareCapacity has further numbers, tiles and sprites behind the ends of the lists: they are neither shown nor changed.
func TestP68SpareCapacity(t *testing.T) {
	all := fieldOf(8, 8, 16)
	for place := range all.Map {
		all.Map[place] %= 5
	}
	// There is room for a whole line behind the 16 numbers.
	back := impl.Field{W: 4, Map: all.Map[:16], Tiles: all.Tiles[:5], ShiftX: 9, ShiftY: 10}
	list := mixedFigures(50, 12, 5, regions[0]).list
	before, listBefore := deepField(all), slices.Clone(list)
	for n := range list {
		s := impl.Scene{Back: back, Over: list[:n]}
		want := drawn(deepScene(s))
		checkSceneLines(t, s, &want)
		checkScenePixels(t, s, &want)
		checkHash(t, s, numberOf(&want))
		checkTouch(t, s, touchOf(deepScene(s)))
		if !sameField(all, before) || !slices.Equal(list, listBefore) {
			t.Fatal("changed", n)
		}
	}
}

func TestP68CallsDependOnTheirArgumentsAlone(t *testing.T) {
	s, u := mixedScene(8, 9, backdrops[1], regions[0]), mixedScene(9, 12, backdrops[5], regions[3])
	broken := deepScene(s)
	broken.Back.Tiles[1].Pixels[63] = 4
	first, second := drawn(s), drawn(u)
	for range 3 {
		checkSceneLines(t, s, &first)
		checkNoSceneLine(t, broken, 3)
		checkSceneLines(t, u, &second)
		checkNoSceneLine(t, s, 16)
	}
}

// allBehind has the sprites of a list, all of them behind the background.
func allBehind(list []impl.Sprite) []impl.Sprite {
	list = slices.Clone(list)
	for place := range list {
		list[place].Behind = true
	}
	return list
}

// fullScene has a background without a pixel that is 0, but sprites that also have the tile behind those of the table, which is of one value.
func fullScene(seed int, n int, b backdrop, in region, value int) impl.Scene {
	s := mixedScene(seed, n, b, in)
	s.Back.Tiles = append(fullTilesOf(b.tiles)[:min(b.tiles, 15)], plainTile(value))
	for place := range s.Back.Map {
		s.Back.Map[place] %= len(s.Back.Tiles) - 1
	}
	for place := range s.Over {
		s.Over[place].Number = (s.Over[place].Number + place) % len(s.Back.Tiles)
	}
	return s
}

// checkOnlyBackground wants a scene to show its background and nothing else.
func checkOnlyBackground(t *testing.T, s impl.Scene) {
	t.Helper()
	want := pixelsOf(s.Back)
	checkSceneLines(t, s, &want)
	checkScenePixels(t, s, &want)
	checkHash(t, s, impl.SceneHash(impl.Scene{Back: s.Back}))
	for y := range want {
		if got := impl.SceneLine(s, y); !slices.Equal(got, impl.FieldLine(s.Back, y)) {
			t.Fatal("line", y, got, labelOf(s))
		}
	}
}

func TestP124SpritesBehindAFullBackground(t *testing.T) {
	for n := 0; n <= 12; n++ {
		for number, in := range regions {
			for place, b := range backdrops {
				s := fullScene(1000*n+100*number+place, n, b, in, n%4)
				s.Over = allBehind(s.Over)
				want := pictureOf(s.Back)
				checkOnlyBackground(t, s)
				checkSceneLines(t, s, &want)
			}
		}
	}
}

// TestP124EveryPlace has solid sprites at every X with some Y, and at every Y with some X.
func TestP124EveryPlace(t *testing.T) {
	for back := 1; back <= 3; back++ {
		var want picture
		for y := range want {
			for x := range want[y] {
				want[y][x] = back
			}
		}
		for place := -16; place <= 64; place++ {
			for _, other := range edgePlaces {
				list := []impl.Sprite{{X: place, Y: other, Number: 1}, {X: other, Y: place, Number: 3}, {X: place, Y: place, Number: 2}}
				s := plainScene(back, allBehind(list)...)
				checkSceneLines(t, s, &want)
			}
		}
	}
}

// TestP124EveryNumberOfSprites has up to twelve solid sprites, flipped in each way, over each other and side by side.
func TestP124EveryNumberOfSprites(t *testing.T) {
	forFlips(func(across bool, down bool) {
		for n := 0; n <= 12; n++ {
			for apart := range 4 {
				s := plainScene(2)
				for place := range n {
					s.Over = append(s.Over, impl.Sprite{X: apart * place, Y: apart * place / 2, Number: place % 4, Across: across, Down: down, Behind: true})
				}
				checkOnlyBackground(t, s)
			}
		}
	})
}

// TestP124OneSpriteInFront: a single sprite that is not behind is seen, if no sprite behind the background is before it.
func TestP124OneSpriteInFront(t *testing.T) {
	for n := 1; n <= 12; n++ {
		for front := range n {
			s := plainScene(3, slices.Repeat([]impl.Sprite{{X: 10, Y: 5, Number: 2, Behind: true}}, n)...)
			s.Over[front].Behind = false
			want := 3
			if front == 0 {
				want = 6
			}
			if got := impl.ScenePixel(s, 13, 9); got != want {
				t.Error(n, front, "wanted", want, "got", got)
			}
			// Three columns farther to the right nothing is before it, but it has to be one of the first four.
			s.Over[front].X = 13
			want = 3
			if front < 4 {
				want = 6
			}
			if got := impl.ScenePixel(s, 20, 9); got != want {
				t.Error(n, front, "wanted", want, "got", got)
			}
		}
	}
}

// TestP124OneHole has a background that is full but for a single place of the picture: there alone a sprite behind it is seen.
func TestP124OneHole(t *testing.T) {
	tiles := []impl.Tile{plainTile(1), plainTile(2), plainTile(3)}
	for holeY := range 16 {
		for holeX := range 32 {
			hole := plainTile(1)
			hole.Pixels[holeY%8*8+holeX%8] = 0
			back := impl.Field{W: 4, Map: make([]int, 8), Tiles: append(slices.Clone(tiles), hole)}
			back.Map[holeY/8*4+holeX/8] = 3
			s := impl.Scene{Back: back, Over: []impl.Sprite{{X: holeX - 3, Y: holeY - 4, Number: 2, Behind: true}}}
			want := pictureOf(back)
			want[holeY][holeX] = 7
			checkSceneLines(t, s, &want)
			// Beside the hole the background is full.
			s.Over[0].X = holeX + 1
			want[holeY][holeX] = 0
			checkSceneLines(t, s, &want)
		}
	}
}

// TestP124OnlyThePictureIsFull has zeros in the part of the table that is outside the picture, and in tiles that are not in it.
func TestP124OnlyThePictureIsFull(t *testing.T) {
	table := slices.Repeat([]int{1}, 64)
	for row := range 2 {
		for column := range 4 {
			table[8*row+column] = 0
		}
	}
	back := impl.Field{W: 8, Map: table, Tiles: []impl.Tile{plainTile(2), {}, plainTile(3)}}
	list := []impl.Sprite{{X: -4, Y: 3, Number: 2}, {X: 28, Y: 12, Number: 2}, {X: 12, Y: -4, Number: 2}, {X: 20, Y: 10, Number: 1}}
	checkOnlyBackground(t, impl.Scene{Back: back, Over: allBehind(list)})
	for _, by := range [][2]int{{1, 0}, {0, 1}, {63, 0}, {0, 63}} {
		s := impl.Scene{Back: shifted(back, by[0], by[1]), Over: []impl.Sprite{{X: 0, Y: 0, Number: 2, Behind: true}, {X: 24, Y: 8, Number: 2, Behind: true}}}
		want := drawn(s)
		if want == pictureOf(s.Back) {
			t.Fatal("a sprite should be seen", by)
		}
		checkSceneLines(t, s, &want)
	}
}

// TestP124OtherScenesShowNothing: a full background with sprites behind it, of which one part is not valid.
func TestP124OtherScenesShowNothing(t *testing.T) {
	for n := 1; n <= 12; n++ {
		for place := range n {
			good := plainScene(2, slices.Repeat([]impl.Sprite{{X: 6, Y: 6, Number: 1, Behind: true}}, n)...)
			checkOnlyBackground(t, good)
			for _, change := range []func(s *impl.Scene){
				func(s *impl.Scene) { s.Over[place].Number = 4 },
				func(s *impl.Scene) { s.Over[place].Number = -1 },
				func(s *impl.Scene) { s.Over[place].X = 65 },
				func(s *impl.Scene) { s.Over[place].Y = -17 },
				func(s *impl.Scene) { s.Over = slices.Repeat(s.Over, 13) },
				func(s *impl.Scene) { s.Back.Map[0] = 4 },
				func(s *impl.Scene) { s.Back.ShiftX = 256 },
				func(s *impl.Scene) { s.Back.Tiles[3].Pixels[place] = 4 },
			} {
				s := deepScene(good)
				change(&s)
				for y := range 16 {
					checkNoSceneLine(t, s, y)
					checkNoScenePixel(t, s, 8, y)
				}
				checkHash(t, s, -1)
			}
		}
	}
}
