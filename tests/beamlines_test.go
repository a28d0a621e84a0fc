package tests

import (
	"math"
	"slices"
	"testing"

	"loop.example/homeconsole/impl"
)

// beamFields are backgrounds of the smallest, the largest and other sizes, with and without shifts.
func beamFields() []impl.Field {
	return []impl.Field{
		fieldOf(1, 1, 1),
		shifted(fieldOf(1, 1, 1), 255, 255),
		shifted(fieldOf(1, 8, 3), 8, 64),
		shifted(fieldOf(2, 3, 4), 0, 8),
		shifted(fieldOf(5, 1, 5), 1, 0),
		shifted(fieldOf(8, 1, 8), 64, 1),
		fieldOf(8, 8, 16),
		shifted(fieldOf(8, 8, 16), 100, 31),
		shifted(fieldOf(8, 8, 16), 255, 255),
	}
}

// forBeams calls a check for every list of valid changes with one of the backgrounds, none of which may be changed.
func forBeams(t *testing.T, check func(f impl.Field, list []impl.Change)) {
	t.Helper()
	fields, number := beamFields(), 0
	forChanges(t, func(list []impl.Change) {
		for range 2 {
			f := fields[number%len(fields)]
			number++
			before := deepField(f)
			check(f, list)
			if !sameField(f, before) {
				t.Fatal("changed", nameOf(before), nameOf(f))
			}
		}
	})
}

func startOf(f impl.Field) [2]int {
	return [2]int{f.ShiftX, f.ShiftY}
}

// beamOf is the picture with the same changes in every line, each pixel by itself; written from the document.
func beamOf(f impl.Field, painting [][]int, list []impl.Change) picture {
	var all picture
	for y := range all {
		for x := range all[y] {
			shifts := shiftsIn(x, startOf(f), list)
			row := painting[(y+shifts[1])%len(painting)]
			all[y][x] = row[(x+shifts[0])%len(row)]
		}
	}
	return all
}

func checkBeam(t *testing.T, f impl.Field, list []impl.Change, want *picture) {
	t.Helper()
	for y := range want {
		if got := impl.BeamLine(f, y, list); !slices.Equal(got, want[y][:]) {
			t.Fatal(nameOf(f), textOfChanges(list), "line", y, "wanted", want[y], "got", got)
		}
	}
}

func checkNoBeam(t *testing.T, f impl.Field, y int, list []impl.Change) {
	t.Helper()
	if line := impl.BeamLine(f, y, list); len(line) != 0 {
		t.Fatal(nameOf(f), textOfChanges(list), "line", y, line)
	}
}

// TestP5PartsAreThoseOfWholeLines uses nothing but the promise.
func TestP5PartsAreThoseOfWholeLines(t *testing.T) {
	forBeams(t, func(f impl.Field, list []impl.Change) {
		bounds := append([]int{0}, impl.BeamParts(f.ShiftX, f.ShiftY, list)...)
		bounds = append(bounds, 32)
		for y := range 16 {
			line := impl.BeamLine(f, y, list)
			if len(line) != 32 {
				t.Fatal("pixels", len(line), nameOf(f), textOfChanges(list))
			}
			for k, start := range bounds[:len(bounds)-1] {
				end := bounds[k+1]
				shifts := shiftsIn(start, startOf(f), list)
				whole := impl.FieldLine(shifted(f, shifts[0], shifts[1]), y)
				if !slices.Equal(line[start:end], whole[start:end]) {
					t.Fatal("from", start, "to", end, "line", y, whole, line, nameOf(f), textOfChanges(list))
				}
			}
		}
	})
}

func TestP5LinesFollowTheRule(t *testing.T) {
	forBeams(t, func(f impl.Field, list []impl.Change) {
		want := beamOf(f, paintingOf(f), list)
		checkBeam(t, f, list, &want)
	})
}

// TestP5PixelsAreThoseOfTheBackground compares with the pixels that chapter 13 names.
func TestP5PixelsAreThoseOfTheBackground(t *testing.T) {
	forBeams(t, func(f impl.Field, list []impl.Change) {
		for _, y := range edgeLines {
			for x, pixel := range impl.BeamLine(f, y, list) {
				shifts := shiftsIn(x, startOf(f), list)
				if want := impl.FieldPixel(shifted(f, shifts[0], shifts[1]), x, y); pixel != want {
					t.Fatal("at", x, y, "wanted", want, "got", pixel, nameOf(f), textOfChanges(list))
				}
			}
		}
	})
}

func TestP5WithoutChanges(t *testing.T) {
	forFields(func(f impl.Field) {
		want := pictureOf(f)
		for _, list := range [][]impl.Change{nil, {}, changesAt(3, 4)[:0]} {
			checkBeam(t, f, list, &want)
		}
		for y := range 16 {
			if got, whole := impl.BeamLine(f, y, nil), impl.FieldLine(f, y); !slices.Equal(got, whole) {
				t.Fatal("line", y, "wanted", whole, "got", got, nameOf(f))
			}
		}
	})
}

// TestP5EverySize has changes on backgrounds of every size.
func TestP5EverySize(t *testing.T) {
	seed := 5000
	forFields(func(f impl.Field) {
		seed++
		list := mixedChanges(seed, 1+seed%8)
		want := beamOf(f, paintingOf(f), list)
		checkBeam(t, f, list, &want)
	})
}

// TestP5ChangesToTheShiftsThatHold: such changes leave the line as it is without changes.
func TestP5ChangesToTheShiftsThatHold(t *testing.T) {
	for _, f := range beamFields() {
		want := pictureOf(f)
		for column := range 32 {
			same := impl.Change{Column: column, ShiftX: f.ShiftX, ShiftY: f.ShiftY}
			other := impl.Change{Column: column, ShiftX: 255 - f.ShiftX, ShiftY: 77}
			checkBeam(t, f, []impl.Change{same}, &want)
			checkBeam(t, f, slices.Repeat([]impl.Change{same}, 8), &want)
			checkBeam(t, f, []impl.Change{other, other, same}, &want)
		}
	}
}

// TestP5ShiftsAWholeTableApart: as the background repeats, shifts that are a size of the table apart show the same.
func TestP5ShiftsAWholeTableApart(t *testing.T) {
	forSizes(func(w int, rows int) {
		f := shifted(fieldOf(w, rows, 3), 5, 6)
		want := pictureOf(f)
		for column := range 32 {
			for _, by := range [][2]int{{8 * w, 0}, {0, 8 * rows}, {8 * w, 8 * rows}, {16 * w, 0}, {0, 24 * rows}} {
				x, y := 5+by[0], 6+by[1]
				checkBeam(t, f, []impl.Change{{Column: column, ShiftX: x, ShiftY: y}}, &want)
				checkBeam(t, f, []impl.Change{{Column: column / 2, ShiftX: x, ShiftY: y}, {Column: column, ShiftX: 5, ShiftY: 6}}, &want)
			}
		}
	})
}

// TestP5EveryColumn has one change, and two changes with the second one back, in every column and in every pair of columns.
func TestP5EveryColumn(t *testing.T) {
	for _, f := range beamFields() {
		painting := paintingOf(f)
		for a := range 32 {
			for b := a; b < 32; b++ {
				first := impl.Change{Column: a, ShiftX: (f.ShiftX + 3) % 256, ShiftY: (f.ShiftY + 5) % 256}
				back := impl.Change{Column: b, ShiftX: f.ShiftX, ShiftY: f.ShiftY}
				for _, list := range [][]impl.Change{{first}, {first, back}, {back}} {
					want := beamOf(f, painting, list)
					checkBeam(t, f, list, &want)
				}
			}
		}
	}
}

// TestP5EveryShift changes to every shift across alone, down alone, and in both directions, from the smallest and from the largest shifts.
func TestP5EveryShift(t *testing.T) {
	for _, f := range beamFields() {
		painting := paintingOf(f)
		for shift := range 256 {
			for _, c := range []impl.Change{{ShiftX: shift, ShiftY: f.ShiftY}, {ShiftX: f.ShiftX, ShiftY: shift}, {ShiftX: shift, ShiftY: 255 - shift}} {
				for _, column := range []int{0, 1, 8, 13, 31} {
					c.Column = column
					want := beamOf(f, painting, []impl.Change{c})
					checkBeam(t, f, []impl.Change{c}, &want)
				}
			}
		}
	}
}

func TestP5LinesWorkedOutByHand(t *testing.T) {
	tiles := []impl.Tile{
		tileOf("01230123", "33221100", "00000001", "10000000", "00000002", "20000000", "12121212", "00033000"),
		plainTile(2),
		tileOf("11111111", "10000003", "10000003", "10000003", "10000003", "10000003", "10000003", "33333333"),
	}
	wide := impl.Field{W: 2, Map: []int{0, 2}, Tiles: tiles}
	one := impl.Field{W: 1, Map: []int{0}, Tiles: tiles}
	for _, c := range []struct {
		f    impl.Field
		y    int
		list []impl.Change
		line string
	}{
		{wide, 0, nil, "01230123" + "11111111" + "01230123" + "11111111"},
		{wide, 0, []impl.Change{{Column: 4, ShiftX: 8}}, "0123" + "1111" + "01230123" + "11111111" + "01230123"},
		{wide, 0, []impl.Change{{Column: 4, ShiftY: 1}}, "0123" + "1100" + "10000003" + "33221100" + "10000003"},
		{wide, 0, []impl.Change{{Column: 4, ShiftX: 8, ShiftY: 1}}, "0123" + "0003" + "33221100" + "10000003" + "33221100"},
		{wide, 0, []impl.Change{{Column: 4, ShiftX: 8, ShiftY: 1}, {Column: 6}}, "0123" + "00" + "23" + "11111111" + "01230123" + "11111111"},
		{wide, 0, []impl.Change{{Column: 4, ShiftX: 8, ShiftY: 1}, {Column: 4}}, "01230123" + "11111111" + "01230123" + "11111111"},
		{wide, 15, []impl.Change{{Column: 31, ShiftY: 1}}, "00033000" + "33333333" + "00033000" + "3333333" + "1"},
		{wide, 15, []impl.Change{{Column: 0, ShiftY: 1}}, "01230123" + "11111111" + "01230123" + "11111111"},
		{shifted(wide, 255, 255), 0, []impl.Change{{Column: 1}, {Column: 30, ShiftX: 255, ShiftY: 255}}, "3" + "1230123" + "11111111" + "01230123" + "111111" + "33"},
		{one, 6, []impl.Change{{Column: 1, ShiftX: 1}, {Column: 2, ShiftX: 2}, {Column: 3, ShiftX: 3}, {Column: 4, ShiftX: 4}, {Column: 5, ShiftX: 5}, {Column: 6, ShiftX: 6}, {Column: 7, ShiftX: 7}, {Column: 8, ShiftY: 2}}, "1111111" + "1" + "01230123" + "01230123" + "01230123"},
		{one, 6, []impl.Change{{Column: 8, ShiftX: 8}, {Column: 16, ShiftY: 8}, {Column: 24, ShiftX: 8, ShiftY: 8}}, "12121212" + "12121212" + "12121212" + "12121212"},
	} {
		if got := impl.BeamLine(c.f, c.y, c.list); !slices.Equal(got, digitsLine(c.line)) {
			t.Error(nameOf(c.f), c.y, textOfChanges(c.list), got)
		}
	}
}

func TestP5LinesOutsideThePicture(t *testing.T) {
	for _, f := range beamFields() {
		for _, list := range [][]impl.Change{nil, changesAt(0), changesAt(4, 4, 31), changesAt(0, 1, 2, 3, 4, 5, 6, 7)} {
			for _, y := range notLines {
				checkNoBeam(t, f, y, list)
			}
			for y := -300; y <= 300; y++ {
				if n := len(impl.BeamLine(f, y, list)); n != 32*digit(y >= 0 && y < 16) {
					t.Fatal(nameOf(f), textOfChanges(list), y, n)
				}
			}
		}
	}
}

// TestP5OtherBackgrounds has invalid backgrounds also where a change at the beginning would replace their shifts.
func TestP5OtherBackgrounds(t *testing.T) {
	for _, f := range brokenFields() {
		for _, list := range [][]impl.Change{nil, plainChanges(0), plainChanges(31), changesAt(0, 3, 3, 31), plainChanges(0, 1, 2, 3, 4, 5, 6, 7)} {
			for _, y := range []int{0, 7, 15, -1, 16} {
				checkNoBeam(t, f, y, list)
			}
		}
	}
}

func TestP5OtherChanges(t *testing.T) {
	fields := []impl.Field{fieldOf(1, 1, 1), shifted(fieldOf(2, 3, 4), 9, 77), shifted(fieldOf(8, 8, 16), 255, 255), shifted(fieldOf(1, 1, 1), -1, 0)}
	for _, list := range brokenChanges() {
		before := slices.Clone(list)
		for _, f := range fields {
			for _, y := range []int{0, 7, 15, -1, 16} {
				checkNoBeam(t, f, y, list)
			}
		}
		if !slices.Equal(list, before) {
			t.Fatal("changed", textOfChanges(before), textOfChanges(list))
		}
	}
}

// TestP5LinesAreNewMemory overwrites lines, and what an append to them could reach: neither the tiles nor another line may change.
func TestP5LinesAreNewMemory(t *testing.T) {
	forBeams(t, func(f impl.Field, list []impl.Change) {
		before := deepField(f)
		want := beamOf(f, paintingOf(f), list)
		for y := range want {
			first, second := impl.BeamLine(f, y, list), impl.BeamLine(f, y, list)
			spoilList(first)
			spoilList(append(first, 1, 2, 3))
			if !sameField(f, before) || !slices.Equal(second, want[y][:]) || !slices.Equal(impl.BeamLine(f, y, list), want[y][:]) {
				t.Fatal(nameOf(before), textOfChanges(list), y)
			}
		}
	})
}

// TestP5SpareCapacityOfTheTable has room for a line behind the table: nothing may be written there.
func TestP5SpareCapacityOfTheTable(t *testing.T) {
	f, all := packedField()
	f.Map = append(make([]int, 0, 300), f.Map...)
	before := slices.Clone(f.Map[:300])
	allBefore := deepField(all)
	for _, list := range [][]impl.Change{nil, changesAt(0), changesAt(5, 5, 31), changesAt(0, 4, 8, 12, 16, 20, 24, 28)} {
		want := beamOf(f, paintingOf(f), list)
		checkBeam(t, f, list, &want)
		if !slices.Equal(f.Map[:300], before) || !sameField(all, allBefore) {
			t.Fatal("changed", textOfChanges(list))
		}
	}
}

// TestP5ChangingTheArgumentsAfterwards: a line stays what it was.
func TestP5ChangingTheArgumentsAfterwards(t *testing.T) {
	for _, list := range changeLists() {
		f := shifted(fieldOf(3, 2, 4), 5, 6)
		want := beamOf(f, paintingOf(f), list)
		var lines [][]int
		for y := range 16 {
			lines = append(lines, impl.BeamLine(f, y, list))
		}
		spoilList(f.Map)
		clear(f.Tiles)
		for k := range list {
			list[k] = impl.Change{Column: math.MinInt, ShiftX: -7, ShiftY: -7}
		}
		for y, line := range lines {
			if !slices.Equal(line, want[y][:]) {
				t.Fatal(y, line, want[y])
			}
		}
	}
}

func TestP5CallsDependOnTheirArgumentsAlone(t *testing.T) {
	f, g := shifted(fieldOf(3, 2, 4), 5, 6), shifted(fieldOf(1, 8, 2), 255, 0)
	list, other := changesAt(3, 3, 20), changesAt(0, 31)
	first, second := beamOf(f, paintingOf(f), list), beamOf(g, paintingOf(g), other)
	plain := pictureOf(f)
	for range 5 {
		checkBeam(t, f, list, &first)
		checkNoBeam(t, f, 16, list)
		checkBeam(t, g, other, &second)
		checkNoBeam(t, f, 0, changesAt(1, 0))
		checkBeam(t, f, nil, &plain)
		checkNoBeam(t, shifted(f, 256, 0), 0, list)
	}
}

// TestP125OneChangeBeforeTheFirstColumn has every shift in each direction, on backgrounds of all sizes.
func TestP125OneChangeBeforeTheFirstColumn(t *testing.T) {
	forSizes(func(w int, rows int) {
		f := shifted(fieldOf(w, rows, 5), 11, 250)
		painting := paintingOf(f)
		for shift := range 256 {
			for _, shifts := range [][2]int{{shift, 250}, {11, shift}, {shift, 255 - shift}} {
				want := shown(painting, shifts[0], shifts[1])
				checkBeam(t, f, []impl.Change{{ShiftX: shifts[0], ShiftY: shifts[1]}}, &want)
			}
		}
	})
}

// TestP125AnyTwoShifts uses nothing but the promise; it has all pairs of shifts for a few tables.
func TestP125AnyTwoShifts(t *testing.T) {
	for _, f := range []impl.Field{fieldOf(1, 1, 1), shifted(fieldOf(3, 2, 2), 255, 255), shifted(fieldOf(8, 8, 2), 7, 8)} {
		forBytePairs(func(x int, y int) {
			line := (x + 3*y) % 16
			want := impl.FieldLine(shifted(f, x, y), line)
			if got := impl.BeamLine(f, line, []impl.Change{{ShiftX: x, ShiftY: y}}); !slices.Equal(got, want) || len(got) != 32 {
				t.Fatal(nameOf(f), x, y, line, want, got)
			}
		})
	}
}

// TestP125TheShiftsOfTheBackground do not matter if there is a change at column 0, whatever follows.
func TestP125TheShiftsOfTheBackground(t *testing.T) {
	forBeams(t, func(f impl.Field, list []impl.Change) {
		if len(list) == 0 || list[0].Column != 0 {
			return
		}
		want := beamOf(f, paintingOf(f), list)
		for _, start := range startShifts {
			checkBeam(t, shifted(f, start[0], start[1]), list, &want)
		}
	})
}

// TestP125SeveralChangesBeforeTheFirstColumn: the last one of them holds for the whole line.
func TestP125SeveralChangesBeforeTheFirstColumn(t *testing.T) {
	for _, f := range beamFields() {
		painting := paintingOf(f)
		for n := 1; n <= 8; n++ {
			list := changesAt(make([]int, n)...)
			want := shown(painting, list[n-1].ShiftX, list[n-1].ShiftY)
			checkBeam(t, f, list, &want)
			if n < 8 {
				plain := pictureOf(f)
				checkBeam(t, f, append(list, impl.Change{ShiftX: f.ShiftX, ShiftY: f.ShiftY}), &plain)
			}
		}
	}
}

// TestP125OtherArguments has changes that are even before the first column, and others that are invalid.
func TestP125OtherArguments(t *testing.T) {
	for _, f := range beamFields() {
		for y := range 16 {
			for _, bad := range notColumns {
				checkNoBeam(t, f, y, []impl.Change{{Column: bad}})
			}
			for _, bad := range notShifts {
				checkNoBeam(t, f, y, []impl.Change{{ShiftX: bad}})
				checkNoBeam(t, f, y, []impl.Change{{ShiftY: bad}})
			}
		}
		for _, y := range notLines {
			checkNoBeam(t, f, y, []impl.Change{{}})
		}
	}
	for _, f := range brokenFields() {
		checkNoBeam(t, f, 0, []impl.Change{{}})
	}
}
