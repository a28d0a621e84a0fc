package tests

import (
	"slices"
	"testing"

	"loop.example/homeconsole/impl"
)

// emptyNumber is the number of a picture of zeros.
const emptyNumber = 13645

// powers has the powers of 31 modulo 65521, that of a place being the one that its pixel is multiplied with.
func powers() [512]int {
	var list [512]int
	power := 1
	for place := 511; place >= 0; place-- {
		list[place] = power
		power = 31 * power % 65521
	}
	return list
}

// numberOf is SceneHash, worked out from the document as a sum of products instead of step by step.
func numberOf(all *picture) int {
	list := powers()
	// What was 1 before the first pixel has been multiplied once more than that pixel.
	number := 31 * list[0]
	for y := range all {
		for x, pixel := range all[y] {
			number += list[32*y+x] * pixel
		}
	}
	return number % 65521
}

// checkHash wants a scene to have a number.
func checkHash(t *testing.T, s impl.Scene, want int) {
	t.Helper()
	if got := impl.SceneHash(s); got != want {
		t.Fatal("wanted", want, "got", got, labelOf(s))
	}
}

func TestP69NumbersFollowTheRule(t *testing.T) {
	forScenes(t, func(s impl.Scene) {
		all := drawn(s)
		checkHash(t, s, numberOf(&all))
		if got := impl.SceneHash(s); got < 0 || got > 65520 {
			t.Fatal(got, labelOf(s))
		}
	})
}

// TestP69NumbersOfTheirOwnPixels uses nothing but the pixels that the program tells.
func TestP69NumbersOfTheirOwnPixels(t *testing.T) {
	forScenes(t, func(s impl.Scene) {
		number := 1
		for y := range 16 {
			for _, pixel := range impl.SceneLine(s, y) {
				number = (31*number + pixel) % 65521
			}
		}
		checkHash(t, s, number)
	})
}

func TestP69WithoutSprites(t *testing.T) {
	forFields(func(f impl.Field) {
		all := pictureOf(f)
		want := numberOf(&all)
		checkHash(t, impl.Scene{Back: f}, want)
		checkHash(t, impl.Scene{Back: f, Over: []impl.Sprite{}}, want)
	})
}

// TestP69ShiftingByTheSizeOfTheTable also shifts by multiples of the size, as far as they are allowed, by ShiftField and without it.
func TestP69ShiftingByTheSizeOfTheTable(t *testing.T) {
	forScenes(t, func(s impl.Scene) {
		width, height := 8*s.Back.W, len(s.Back.Map)/s.Back.W*8
		want := impl.SceneHash(s)
		for _, by := range [][2]int{{width, 0}, {-width, 0}, {0, height}, {0, -height}, {width, height}, {255 / width * width, -(255 / height * height)}} {
			checkHash(t, impl.Scene{Back: impl.ShiftField(s.Back, by[0], by[1]), Over: s.Over}, want)
			x, y := s.Back.ShiftX+by[0], s.Back.ShiftY+by[1]
			if x >= 0 && x <= 255 && y >= 0 && y <= 255 {
				checkHash(t, impl.Scene{Back: shifted(s.Back, x, y), Over: s.Over}, want)
			}
		}
	})
}

// TestP69EveryShift has every shift in each direction: those that differ by the size of the table have the same number.
func TestP69EveryShift(t *testing.T) {
	forSizes(func(w int, rows int) {
		s := mixedScene(60+w, 5, backdrop{w, rows, 3, 0, 0}, regions[1])
		for shift := 0; shift <= 255; shift++ {
			across, down := impl.Scene{Back: shifted(s.Back, shift, 3), Over: s.Over}, impl.Scene{Back: shifted(s.Back, 5, shift), Over: s.Over}
			first, second := drawn(across), drawn(down)
			checkHash(t, across, numberOf(&first))
			checkHash(t, down, numberOf(&second))
			across.Back.ShiftX %= 8 * w
			down.Back.ShiftY %= 8 * rows
			checkHash(t, across, numberOf(&first))
			checkHash(t, down, numberOf(&second))
		}
	})
}

// outsiders are wholly outside the picture, on each side and at each corner; those above and below it are on none of its lines.
func outsiders(number int) []impl.Sprite {
	var list []impl.Sprite
	for _, place := range []int{-16, -12, -8, 32, 40, 64} {
		for _, other := range []int{-16, -3, 0, 5, 15, 64} {
			list = append(list, impl.Sprite{X: place, Y: other, Number: number})
		}
	}
	for _, place := range []int{-16, -12, -8, 16, 20, 64} {
		for _, other := range []int{-16, -3, 0, 5, 31, 64} {
			list = append(list, impl.Sprite{X: other, Y: place, Number: number, Behind: true})
		}
	}
	return list
}

// TestP69SpritesOutsideThePicture adds them behind all others: before others they may take one of the four places of a line.
func TestP69SpritesOutsideThePicture(t *testing.T) {
	forScenes(t, func(s impl.Scene) {
		if len(s.Over) == 12 {
			return
		}
		want := impl.SceneHash(s)
		for _, sprite := range outsiders(len(s.Back.Tiles) - 1) {
			list := append(slices.Clone(s.Over), sprite)
			checkHash(t, impl.Scene{Back: s.Back, Over: list}, want)
			if sprite.Y <= -8 || sprite.Y >= 16 {
				list = slices.Insert(slices.Clone(s.Over), len(s.Over)/2, sprite)
				checkHash(t, impl.Scene{Back: s.Back, Over: list}, want)
			}
		}
	})
}

// TestP69EverySpriteOutsideThePicture has a solid sprite at every place: only where it reaches into the picture the number may be another one.
func TestP69EverySpriteOutsideThePicture(t *testing.T) {
	for atX := -16; atX <= 64; atX++ {
		for atY := -16; atY <= 64; atY++ {
			if atX <= -8 || atX >= 32 || atY <= -8 || atY >= 16 {
				checkHash(t, plainScene(0, impl.Sprite{X: atX, Y: atY, Number: 3}), emptyNumber)
			}
		}
	}
}

// TestP69SpritesBesideThePictureTakePlaces: on the lines that such sprites cover, as many sprites behind them are hidden as have no place left.
func TestP69SpritesBesideThePictureTakePlaces(t *testing.T) {
	for n := 0; n <= 11; n++ {
		for _, atX := range []int{-16, -8, 32, 64} {
			s := plainScene(0, slices.Repeat([]impl.Sprite{{X: atX, Y: 4, Number: 3}}, n)...)
			s.Over = append(s.Over, impl.Sprite{X: 3, Y: 4, Number: 2})
			want := impl.SceneHash(plainScene(0, impl.Sprite{X: 3, Y: 4, Number: 2}))
			if n >= 4 {
				want = emptyNumber
			}
			checkHash(t, s, want)
		}
	}
}

// TestP69SinglePixels has a single pixel in each place of the picture, of the background and of a sprite.
func TestP69SinglePixels(t *testing.T) {
	list := powers()
	for place := range 512 {
		x, y := place%32, place/32
		for value := 1; value <= 3; value++ {
			dot := impl.Tile{}
			dot.Pixels[y%8*8+x%8] = value
			tiles := []impl.Tile{{}, dot}
			back := impl.Field{W: 4, Map: make([]int, 8), Tiles: tiles}
			over := impl.Sprite{X: x / 8 * 8, Y: y / 8 * 8, Number: 1, Behind: value == 2}
			checkHash(t, impl.Scene{Back: back, Over: []impl.Sprite{over}}, (emptyNumber+(4+value)*list[place])%65521)
			back.Map[y/8*4+x/8] = 1
			checkHash(t, impl.Scene{Back: back}, (emptyNumber+value*list[place])%65521)
		}
	}
}

// TestP69NumbersFromElsewhere has results of a program outside this project that was written from the document.
func TestP69NumbersFromElsewhere(t *testing.T) {
	for value, want := range []int{emptyNumber, 27204, 40763, 54322} {
		checkHash(t, plainScene(value), want)
	}
	for _, c := range []struct{ place, value, want int }{
		{0, 1, 9858}, {0, 3, 2284}, {31, 2, 4218}, {32, 1, 8209}, {480, 3, 23225}, {511, 1, 13646}, {511, 3, 13648},
	} {
		dot := impl.Tile{}
		dot.Pixels[c.place/32%8*8+c.place%8] = c.value
		back := impl.Field{W: 4, Map: make([]int, 8), Tiles: []impl.Tile{{}, dot}}
		back.Map[c.place/32/8*4+c.place%32/8] = 1
		checkHash(t, impl.Scene{Back: back}, c.want)
	}
	s := handScene()
	checkHash(t, s, 49426)
	checkHash(t, impl.Scene{Back: s.Back}, 43502)
	checkHash(t, impl.Scene{Back: s.Back, Over: s.Over[1:]}, 9392)
	s.Back = shifted(s.Back, 3, 7)
	checkHash(t, s, 19044)
	checkHash(t, impl.Scene{Back: s.Back}, 64928)
}

// TestP69EqualPictures has different scenes that show the same.
func TestP69EqualPictures(t *testing.T) {
	round := tileOf("00111100", "01222210", "12000021", "12033021", "12033021", "12000021", "01222210", "00111100")
	tiles := []impl.Tile{{}, round, plainTile(2), {}, plainTile(2)}
	back := impl.Field{W: 2, Map: []int{0, 2}, Tiles: tiles}
	ball := impl.Sprite{X: 13, Y: 6, Number: 1}
	across, down, both := ball, ball, ball
	across.Across, down.Down, both.Across, both.Down = true, true, true, true
	want := impl.SceneHash(impl.Scene{Back: back, Over: []impl.Sprite{ball}})
	wide := impl.Field{W: 8, Map: slices.Repeat([]int{3, 4}, 32), Tiles: tiles}
	fewer := impl.Field{W: 2, Map: []int{0, 2}, Tiles: tiles[:3]}
	for place, s := range []impl.Scene{
		{Back: back, Over: []impl.Sprite{across}},
		{Back: back, Over: []impl.Sprite{down}},
		{Back: back, Over: []impl.Sprite{both}},
		{Back: back, Over: []impl.Sprite{ball, ball, across, down, both}},
		{Back: back, Over: []impl.Sprite{{X: 13, Y: 6}, {X: 60, Y: 6, Number: 2}, ball}},
		{Back: back, Over: []impl.Sprite{ball, {X: 8, Y: 0, Number: 3}, {X: 24, Y: 1, Number: 2, Behind: true}}},
		{Back: wide, Over: []impl.Sprite{ball}},
		{Back: shifted(wide, 64, 128), Over: []impl.Sprite{ball}},
		{Back: shifted(back, 240, 248), Over: []impl.Sprite{ball}},
		{Back: fewer, Over: []impl.Sprite{ball}},
	} {
		if got := impl.SceneHash(s); got != want {
			t.Error(place, "wanted", want, "got", got)
		}
	}
	if impl.SceneHash(impl.Scene{Back: back}) == want || impl.SceneHash(impl.Scene{Back: shifted(back, 1, 0), Over: []impl.Sprite{ball}}) == want {
		t.Error("other pictures")
	}
}

func TestP69OtherScenesHaveNoNumber(t *testing.T) {
	forBrokenScenes(func(s impl.Scene) { checkHash(t, s, -1) })
}

func TestP69CallsDependOnTheirArgumentsAlone(t *testing.T) {
	s, u := mixedScene(8, 9, backdrops[1], regions[0]), mixedScene(9, 12, backdrops[5], regions[3])
	broken := deepScene(s)
	broken.Back.Map[0] = 2
	first, second := drawn(s), drawn(u)
	for range 5 {
		checkHash(t, s, numberOf(&first))
		checkHash(t, broken, -1)
		checkHash(t, u, numberOf(&second))
		checkHash(t, impl.Scene{}, -1)
	}
}
