package tests

import (
	"slices"
	"testing"

	"loop.example/homeconsole/impl"
)

// touchOf is FirstTouch, written from the document.
func touchOf(s impl.Scene) int {
	if len(s.Over) == 0 {
		return -1
	}
	all := pictureOf(s.Back)
	for y := range all {
		for x, back := range all[y] {
			if back != 0 && pixelOf(s.Over[0], s.Back.Tiles, x, y) != 0 {
				return x + 32*y
			}
		}
	}
	return -1
}

func checkTouch(t *testing.T, s impl.Scene, want int) {
	t.Helper()
	if got := impl.FirstTouch(s); got != want {
		t.Fatal("wanted", want, "got", got, labelOf(s))
	}
}

func TestP70TouchesFollowTheRule(t *testing.T) {
	forScenes(t, func(s impl.Scene) { checkTouch(t, s, touchOf(s)) })
}

// TestP70TouchesAreSeen uses nothing but the promise; it also looks at the lines before that of the touch.
func TestP70TouchesAreSeen(t *testing.T) {
	forScenes(t, func(s impl.Scene) {
		touch := impl.FirstTouch(s)
		if len(s.Over) == 0 {
			checkTouch(t, s, -1)
			return
		}
		for place := range 512 {
			x, y := place%32, place/32
			both := impl.FieldPixel(s.Back, x, y) != 0 && spotAt(alone(figuresOf(s), 0), x, y).pixel != 0
			if both != (place == touch) {
				t.Fatal("at", place, "touch", touch, labelOf(s))
			}
			if both {
				return
			}
		}
		checkTouch(t, s, -1)
	})
}

func TestP70WithoutSprites(t *testing.T) {
	forFields(func(f impl.Field) {
		checkTouch(t, impl.Scene{Back: f}, -1)
		checkTouch(t, impl.Scene{Back: f, Over: []impl.Sprite{}}, -1)
	})
}

// TestP70EveryTwoPixels has each pixel of a sprite, in front and behind, at each one of the background.
func TestP70EveryTwoPixels(t *testing.T) {
	for back := range 4 {
		for pixel := range 4 {
			for _, behind := range bothFlags {
				want := -1
				if back > 0 && pixel > 0 {
					want = 9 + 32*3
				}
				checkTouch(t, plainScene(back, impl.Sprite{X: 9, Y: 3, Number: pixel, Behind: behind}), want)
			}
		}
	}
}

// TestP70EveryPlaceOfASprite has a solid sprite at every X and Y over a full background: its first pixel inside the picture touches.
func TestP70EveryPlaceOfASprite(t *testing.T) {
	for atX := -16; atX <= 64; atX++ {
		for atY := -16; atY <= 64; atY++ {
			want := -1
			if atX >= -7 && atX <= 31 && atY >= -7 && atY <= 15 {
				want = max(atX, 0) + 32*max(atY, 0)
			}
			for _, behind := range bothFlags {
				checkTouch(t, plainScene(1, impl.Sprite{X: atX, Y: atY, Number: 3, Behind: behind}), want)
				checkTouch(t, plainScene(0, impl.Sprite{X: atX, Y: atY, Number: 3, Behind: behind}), -1)
			}
		}
	}
}

// TestP70EveryPixelOfASprite has a single pixel in each place of a sprite, flipped in each way, over a full background: where it is inside the picture, it touches there.
func TestP70EveryPixelOfASprite(t *testing.T) {
	for place := range 64 {
		dot := impl.Tile{}
		dot.Pixels[place] = 1 + place%3
		forFlips(func(across bool, down bool) {
			column, row := place%8, place/8
			if across {
				column = 7 - column
			}
			if down {
				row = 7 - row
			}
			for _, at := range [][2]int{{0, 0}, {24, 8}, {-7, -7}, {31, 15}, {-4, 3}, {28, 5}, {11, -4}, {13, 12}, {9, 6}, {-8, 4}, {32, 4}, {4, 16}} {
				x, y, want := at[0]+column, at[1]+row, -1
				if x >= 0 && x < 32 && y >= 0 && y < 16 {
					want = x + 32*y
				}
				back := impl.Field{W: 1, Map: []int{1}, Tiles: []impl.Tile{dot, plainTile(2)}}
				checkTouch(t, impl.Scene{Back: back, Over: []impl.Sprite{{X: at[0], Y: at[1], Across: across, Down: down}}}, want)
			}
		})
	}
}

// dottedScene has a background with a single pixel that is not 0, in a place of the picture.
func dottedScene(x int, y int, list ...impl.Sprite) impl.Scene {
	dot := impl.Tile{}
	dot.Pixels[y%8*8+x%8] = 1 + (x+y)%3
	back := impl.Field{W: 4, Map: make([]int, 8), Tiles: []impl.Tile{{}, plainTile(3), dot}}
	back.Map[y/8*4+x/8] = 2
	return impl.Scene{Back: back, Over: list}
}

// TestP70EveryPixelOfTheBackground has a single one, in each place of the picture, and solid sprites that just cover it or just do not.
func TestP70EveryPixelOfTheBackground(t *testing.T) {
	for place := range 512 {
		x, y := place%32, place/32
		for _, left := range []int{-1, 0, 1, 7, 8} {
			for _, above := range []int{-1, 0, 1, 7, 8} {
				want := -1
				if left >= 0 && left <= 7 && above >= 0 && above <= 7 {
					want = place
				}
				checkTouch(t, dottedScene(x, y, impl.Sprite{X: x - left, Y: y - above, Number: 1, Behind: place%2 == 0}), want)
			}
		}
		checkTouch(t, dottedScene(x, y, impl.Sprite{X: x, Y: y}), -1)
	}
}

// TestP70EveryTwoPlaces has a background with two pixels: the one that comes first, line by line, is the touch, also if the other one is farther to the left.
func TestP70EveryTwoPlaces(t *testing.T) {
	for one := range 64 {
		for two := range 64 {
			dots := impl.Tile{}
			dots.Pixels[one], dots.Pixels[two] = 1, 2
			back := impl.Field{W: 4, Map: []int{0, 0, 0, 0, 0, 2, 0, 0}, Tiles: []impl.Tile{{}, plainTile(3), dots}}
			first := min(one, two)
			checkTouch(t, impl.Scene{Back: back, Over: []impl.Sprite{{X: 8, Y: 8, Number: 1}}}, 8+first%8+32*(8+first/8))
		}
	}
}

// TestP70TheCorners: a touch in the first pixel of the picture, in the last one, and in those at the other corners.
func TestP70TheCorners(t *testing.T) {
	for _, c := range []struct{ x, y, want int }{{0, 0, 0}, {31, 0, 31}, {0, 15, 480}, {31, 15, 511}, {0, 1, 32}, {30, 15, 510}} {
		for _, at := range [][2]int{{c.x, c.y}, {c.x - 7, c.y - 7}, {c.x, c.y - 7}, {c.x - 7, c.y}} {
			for _, behind := range bothFlags {
				checkTouch(t, dottedScene(c.x, c.y, impl.Sprite{X: at[0], Y: at[1], Number: 1, Behind: behind}), c.want)
			}
		}
	}
}

// TestP70OtherSpritesDoNotTouch has any number of solid sprites behind number 0, which has a pixel elsewhere, or none that can be seen.
func TestP70OtherSpritesDoNotTouch(t *testing.T) {
	for n := 0; n <= 11; n++ {
		for _, behind := range bothFlags {
			others := slices.Repeat([]impl.Sprite{{X: 8, Y: 4, Number: 1, Behind: behind}}, n)
			for _, c := range []struct {
				first impl.Sprite
				want  int
			}{
				{impl.Sprite{X: 8, Y: 4}, -1},
				{impl.Sprite{X: 8, Y: 5, Number: 1}, -1},
				{impl.Sprite{X: 9, Y: 4, Number: 1}, -1},
				{impl.Sprite{X: 0, Y: 4, Number: 1}, -1},
				{impl.Sprite{X: 8, Y: -4, Number: 1}, -1},
				{impl.Sprite{X: -16, Y: 4, Number: 1}, -1},
				{impl.Sprite{X: 64, Y: 64, Number: 1}, -1},
				{impl.Sprite{X: 8, Y: 4, Number: 1}, 8 + 32*4},
				{impl.Sprite{X: 1, Y: -3, Number: 1, Behind: true}, 8 + 32*4},
			} {
				checkTouch(t, dottedScene(8, 4, append([]impl.Sprite{c.first}, others...)...), c.want)
			}
		}
	}
}

// TestP70NumberZeroAlone: the other sprites change nothing, whatever they are.
func TestP70NumberZeroAlone(t *testing.T) {
	forScenes(t, func(s impl.Scene) {
		if len(s.Over) == 0 {
			return
		}
		want := impl.FirstTouch(impl.Scene{Back: s.Back, Over: s.Over[:1]})
		checkTouch(t, s, want)
		list := slices.Clone(s.Over)
		slices.Reverse(list[1:])
		checkTouch(t, impl.Scene{Back: s.Back, Over: list}, want)
		list[0].Behind = !list[0].Behind
		checkTouch(t, impl.Scene{Back: s.Back, Over: allBehind(list)}, want)
		checkTouch(t, impl.Scene{Back: s.Back, Over: list}, want)
	})
}

// TestP70EveryShift has every shift of the background in each direction.
func TestP70EveryShift(t *testing.T) {
	for number, b := range backdrops {
		for _, sprite := range []impl.Sprite{{X: 3, Y: 2}, {X: -5, Y: 12, Down: true, Behind: true}, {X: 29, Y: -6, Across: true}} {
			s := mixedScene(70+number, 0, b, regions[0])
			s.Back.Tiles[0] = mixedTile(number, []int{0, 0, 0, 0, 0, 2})
			s.Over = []impl.Sprite{sprite}
			for shift := 0; shift <= 255; shift++ {
				for _, shifts := range [][2]int{{shift, 0}, {0, shift}, {shift, 255 - shift}} {
					s.Back = shifted(s.Back, shifts[0], shifts[1])
					want := touchOf(s)
					checkTouch(t, s, want)
					s.Back = shifted(s.Back, shifts[0]%(8*b.w), shifts[1]%(8*b.rows))
					checkTouch(t, s, want)
				}
			}
		}
	}
}

func TestP70TouchesWorkedOutByHand(t *testing.T) {
	s := handScene()
	moved := impl.Scene{Back: shifted(s.Back, 3, 7), Over: s.Over}
	for _, c := range []struct {
		s    impl.Scene
		want int
	}{
		{s, 7 + 32*2},
		{impl.Scene{Back: s.Back, Over: s.Over[1:]}, 4},
		{impl.Scene{Back: s.Back, Over: s.Over[2:]}, 16},
		{impl.Scene{Back: s.Back, Over: s.Over[3:]}, -1},
		{impl.Scene{Back: s.Back, Over: s.Over[4:]}, 20},
		{impl.Scene{Back: s.Back, Over: s.Over[5:]}, 32 * 10},
		{impl.Scene{Back: s.Back, Over: s.Over[6:]}, -1},
		{impl.Scene{Back: s.Back, Over: s.Over[7:]}, 7 + 32*10},
		{impl.Scene{Back: s.Back, Over: s.Over[9:]}, -1},
		{moved, 4 + 32*3},
		{impl.Scene{Back: moved.Back, Over: s.Over[1:]}, 4},
		{impl.Scene{Back: moved.Back, Over: s.Over[2:]}, 13},
		{impl.Scene{Back: moved.Back, Over: s.Over[3:]}, 29},
	} {
		checkTouch(t, c.s, c.want)
	}
}

func TestP70OtherScenesHaveNoTouch(t *testing.T) {
	forBrokenScenes(func(s impl.Scene) { checkTouch(t, s, -1) })
}

// TestP70AnInvalidPartHidesTheTouch: also a sprite that does not touch, or a tile that nothing uses.
func TestP70AnInvalidPartHidesTheTouch(t *testing.T) {
	good := dottedScene(8, 4, impl.Sprite{X: 6, Y: 1, Number: 1})
	checkTouch(t, good, 8+32*4)
	for _, sprite := range []impl.Sprite{{X: -17}, {X: 65}, {Y: -17}, {Y: 65}, {X: 20, Y: 12, Number: 3}, {X: 20, Y: 12, Number: -1}} {
		checkTouch(t, impl.Scene{Back: good.Back, Over: append(slices.Clone(good.Over), sprite)}, -1)
	}
	checkTouch(t, impl.Scene{Back: good.Back, Over: slices.Repeat(good.Over, 12)}, 8+32*4)
	checkTouch(t, impl.Scene{Back: good.Back, Over: slices.Repeat(good.Over, 13)}, -1)
	for _, pixel := range []int{-1, 4} {
		other := deepScene(good)
		other.Back.Tiles = append(other.Back.Tiles, plainTile(pixel))
		checkTouch(t, other, -1)
	}
	checkTouch(t, impl.Scene{Back: shifted(good.Back, 256, 0), Over: good.Over}, -1)
	checkTouch(t, impl.Scene{Back: shifted(good.Back, 0, -1), Over: good.Over}, -1)
}

func TestP70CallsDependOnTheirArgumentsAlone(t *testing.T) {
	s, u := handScene(), dottedScene(31, 15, impl.Sprite{X: 31, Y: 15, Number: 1})
	broken := deepScene(s)
	broken.Over[0].Y = 65
	for range 5 {
		checkTouch(t, s, 71)
		checkTouch(t, broken, -1)
		checkTouch(t, u, 511)
		checkTouch(t, impl.Scene{}, -1)
	}
}
